package repack_test

import (
	"math"
	"slices"
	"testing"

	"drayage/api"
	"drayage/fit"
	"drayage/place"
	"drayage/repack"
)

const (
	most = api.MaxQty
	wait = api.Nowhere
)

// pairs makes labels of keys and values that alternate.
func pairs(words ...string) (l []api.Label) {
	for i := 0; i < len(words); i += 2 {
		l = append(l, api.Label{Key: words[i], Value: words[i+1]})
	}
	return l
}

func is(key, value string) []api.Term { return []api.Term{{Kind: api.TermIs, Key: key, Value: value}} }

// far are numbers that are no places of anything.
func far(count int) []int {
	return []int{count, count + 1, -1, -2, math.MaxInt, math.MinInt, math.MaxInt32, 1 << 32}
}

// of makes a cluster of nodes n0, n1 .. that have that much cpu, and pods pa, pb .. that ask for that much.
func of(caps, reqs []int) (s api.Snap) {
	for i, n := range caps {
		s.Nodes = append(s.Nodes, api.Node{Name: "n" + string(rune('0'+i)), Cap: api.Vec{n}})
	}
	for i, n := range reqs {
		s.Pods = append(s.Pods, api.Pod{Name: "p" + string(rune('a'+i)), Req: api.Vec{n}})
	}
	return s
}

// zoned gives nodes zones, one behind the other; none of an empty name.
func zoned(s api.Snap, zones ...string) api.Snap {
	for node, zone := range zones {
		if zone != "" {
			s.Nodes[node].Labels = pairs("zone", zone)
		}
	}
	return s
}

// drain makes a policy that drains nodes, with moves enough.
func drain(names ...string) api.Goal { return api.Goal{Drain: names, MaxMoves: 9} }

// bounds makes one that looks for nodes that are low, or high, of cpu.
func bounds(low, high, moves int) api.Goal {
	return api.Goal{Low: [2]int{low, 1000}, High: [2]int{high, 1000}, On: api.OnEmpty, MaxMoves: moves}
}

func checkChoices(t *testing.T, s api.Snap, p []int, g api.Goal, pod int, want ...int) {
	t.Helper()
	if l := repack.Choices(s, p, g, pod); !slices.Equal(l, want) {
		t.Errorf("Choices(%v, %v, %d): %v, not %v", p, g, pod, l, want)
	}
}

// checkTarget asks also that the wishes are the moves to the target.
func checkTarget(t *testing.T, s api.Snap, p []int, g api.Goal, want []int, stays ...api.Wrong) {
	t.Helper()
	q, l, e := repack.Target(s, p, g)
	if !slices.Equal(q, want) || !slices.Equal(l, stays) || e != api.OK {
		t.Errorf("Target(%v, %v): %v, %v, %d, not %v, %v", p, g, q, l, e, want, stays)
	}
	moves, e := repack.Wishes(s, p, g)
	if !slices.Equal(moves, place.Moves(p, want)) || e != api.OK {
		t.Errorf("Wishes(%v, %v): %v, %d, not those to %v", p, g, moves, e, want)
	}
}

// TestExamples holds the chapter's table.
func TestExamples(t *testing.T) {
	s, p := of([]int{100, 100, 100}, []int{20, 20, 20, 20}), []int{0, 0, 1, 2}
	g := drain("n0")
	checkChoices(t, s, p, g, 0, 1, 2)
	checkTarget(t, s, p, g, []int{1, 1, 1, 2})
	if l, e := repack.Wishes(s, p, g); !slices.Equal(l, []api.Move{{Pod: 0, To: 1}, {Pod: 1, To: 1}}) || e != api.OK {
		t.Errorf("Wishes: %v, %d", l, e)
	}
	g.MaxMoves = 1
	checkTarget(t, s, p, g, []int{1, 0, 1, 2}, api.Wrong{Why: api.WhyDrain, Pod: 1, Node: 0})
}

// TestChoices (P15.1): the nodes on which the pod, when it was taken off, might be bound, where least is left ahead; not its own, nor one that is drained.
func TestChoices(t *testing.T) {
	s := of([]int{100, 100, 100, 100, 50}, []int{10, 40, 60, 20})
	p := []int{0, 1, 2, wait}
	checkChoices(t, s, p, drain(), 0, 2, 1, 4, 3) // of what is left: 300, 500, 800, 900
	checkChoices(t, s, p, drain(), 1, 2, 4, 0, 3)
	checkChoices(t, s, p, drain(), 2, 1, 0, 3) // no room on n4
	checkChoices(t, s, p, api.Goal{}, 2, 1, 0, 3)
	checkChoices(t, s, p, drain("n0"), 0, 2, 1, 4, 3)
	checkChoices(t, s, p, drain("n0"), 1, 2, 4, 3)
	checkChoices(t, s, p, drain("n0", "n1", "n3", "n5", "x"), 0, 2, 4)
	checkChoices(t, s, p, drain("n1", "n2", "n3", "n4"), 0)
	checkChoices(t, s, p, api.Goal{High: [2]int{1, 1}, On: api.OnAll}, 0, 2, 1, 4, 3) // be they high then, or not
	s.Nodes[2].Cordon, s.Nodes[3].Lost = true, true
	checkChoices(t, s, p, drain(), 0, 1, 4)
	checkChoices(t, s, p, drain(), 2, 1, 0)
	s.Nodes[0].Cordon = true // its own node's cordon keeps it not
	checkChoices(t, s, p, drain(), 0, 1, 4)
	checkChoices(t, of([]int{100}, []int{10}), []int{0}, drain(), 0)
}

// TestNoChoices (P15.1): nothing of a pod that waits, or that there is not.
func TestNoChoices(t *testing.T) {
	s, p := of([]int{100, 100}, []int{10, 10}), []int{0, wait}
	checkChoices(t, s, p, drain(), 0, 1)
	checkChoices(t, s, p, drain(), 1)
	for _, pod := range far(len(s.Pods)) {
		checkChoices(t, s, p, drain(), pod)
		checkChoices(t, api.Snap{}, nil, drain(), pod)
	}
}

// TestChoicesNear (P15.1): not where somebody who asks for the pod would miss it, though it might be bound there once it is taken off; but where nobody had it near ahead.
func TestChoicesNear(t *testing.T) {
	s := zoned(of([]int{100, 100, 100, 100}, []int{10, 1}), "x", "x", "y")
	s.Pods[0].Labels, s.Pods[1].With = pairs("app", "web"), api.Near{Topo: "zone", Terms: is("app", "web")}
	if l := fit.Rank(s, []int{wait, 0}, 0); !slices.Equal(l, []int{0, 1, 2, 3}) {
		t.Errorf("it might be bound on %v", l)
	}
	checkChoices(t, s, []int{0, 0}, drain(), 0, 1)
	checkChoices(t, s, []int{0, 1}, drain(), 0, 1)
	checkChoices(t, s, []int{1, 0}, drain(), 0, 0)
	checkChoices(t, s, []int{2, 2}, drain(), 0)
	checkChoices(t, s, []int{2, 1}, drain(), 0, 1, 0, 3)
	checkChoices(t, s, []int{3, 3}, drain(), 0, 0, 1, 2)
	checkChoices(t, s, []int{3, wait}, drain(), 0, 0, 1, 2)
	checkChoices(t, s, []int{0, 0}, drain(), 1, 1) // who asks itself
	checkTarget(t, s, []int{0, 0}, drain("n1"), []int{0, 0})
	checkTarget(t, s, []int{0, 1}, drain("n0"), []int{1, 1})
	checkTarget(t, s, []int{2, 2}, drain("n2"), []int{2, 2}, api.Wrong{Why: 1, Pod: 0, Node: 2}, api.Wrong{Why: 1, Pod: 1, Node: 2})
}

// TestChoicesOwner (P15.1): what is broken only as long as the pod is off counts for nothing; a skew that its going makes greater does.
func TestChoicesOwner(t *testing.T) {
	s := zoned(of([]int{100, 100, 100, 100}, []int{10, 10, 10}), "x", "x", "y")
	for pod := range s.Pods {
		s.Pods[pod].Owner = "o"
	}
	s.Owners = []api.Owner{{Name: "o", Min: 3}}
	checkChoices(t, s, []int{0, 2, 2}, drain(), 0, 2, 1, 3)
	s.Owners[0].Topo, s.Owners[0].Skew = "zone", 1
	checkChoices(t, s, []int{0, 2, 2}, drain(), 0, 1)       // 1 2 ahead, and nobody in x would be one too few
	checkChoices(t, s, []int{0, 2, 2}, drain(), 1, 0, 1, 3) // 2 1, or 1 1
	checkChoices(t, s, []int{0, 3, 2}, drain(), 2, 3)       // 1 0; 2 0 is too great
	checkChoices(t, s, []int{2, 2, 2}, drain(), 0, 0, 1, 3) // too great already
	s.Owners[0].Topo, s.Owners[0].Skew, s.Owners[0].Single = "", 0, true
	checkChoices(t, s, []int{0, 2, 2}, drain(), 0, 1, 3)
	checkChoices(t, s, []int{0, 2, 2}, drain(), 1, 1, 3)
}

// TestTarget (P15.2): who is to go goes, one behind the other, each as it is when those ahead have gone; a pod may make high, or go to an empty node.
func TestTarget(t *testing.T) {
	s := of([]int{100, 100, 100, 100}, []int{40, 30, 50, 0})
	p := []int{0, 0, 1, wait}
	one, two := api.Wrong{Why: 1, Pod: 0, Node: 0}, api.Wrong{Why: 1, Pod: 1, Node: 0}
	checkTarget(t, s, p, api.Goal{MaxMoves: 9}, p)
	checkTarget(t, s, p, drain("n0"), []int{1, 2, 1, wait}) // the second one finds no room beside the first
	checkTarget(t, s, p, drain("n0", "n1"), []int{2, 2, 3, wait})
	checkTarget(t, s, p, drain("n1"), []int{0, 0, 2, wait})
	checkTarget(t, s, p, drain("n2", "n3"), p)
	checkTarget(t, s, p, drain("n0", "n2", "n3"), []int{1, 0, 1, wait}, two)
	checkTarget(t, s, p, drain("n0", "n1", "n2", "n3"), p, one, two, api.Wrong{Why: 1, Pod: 2, Node: 1})
	checkTarget(t, s, p, api.Goal{Drain: []string{"n0"}, MaxMoves: 9, High: [2]int{850, 0}}, []int{1, 2, 1, wait}) // n1 gets high
	checkTarget(t, api.Snap{}, nil, drain("n0"), nil)
	checkTarget(t, api.Snap{Nodes: s.Nodes}, nil, drain("n0"), nil)
	checkTarget(t, api.Snap{Pods: s.Pods}, []int{wait, wait, wait, wait}, drain("n0"), []int{wait, wait, wait, wait})
}

// TestMaxMoves (P15.2): once so many have gone, the others stay, and are told in order; those that stay for want of a node are none that have gone.
func TestMaxMoves(t *testing.T) {
	s, p := of([]int{100, 100, 50}, []int{20, 60, 20, 20, 20, 20}), []int{0, 0, 0, 2, 2, 1}
	check := func(moves int, want []int, stays ...int) {
		t.Helper()
		g := drain("n0", "n2")
		g.MaxMoves = moves
		var l []api.Wrong
		for _, pod := range stays {
			l = append(l, api.Wrong{Why: 1, Pod: pod, Node: p[pod]})
		}
		checkTarget(t, s, p, g, want, l...)
	}
	check(0, p, 0, 1, 2, 3, 4)
	check(1, []int{1, 0, 0, 2, 2, 1}, 1, 2, 3, 4)
	check(2, []int{1, 1, 0, 2, 2, 1}, 2, 3, 4)
	check(3, []int{1, 1, 0, 2, 2, 1}, 2, 3, 4) // n1 is full
	check(api.MaxMoves, []int{1, 1, 0, 2, 2, 1}, 2, 3, 4)
	s.Pods[1].Req = api.Vec{90} // it finds no room
	check(0, p, 0, 1, 2, 3, 4)
	check(1, []int{1, 0, 0, 2, 2, 1}, 1, 2, 3, 4)
	check(2, []int{1, 0, 1, 2, 2, 1}, 1, 3, 4)
	check(3, []int{1, 0, 1, 1, 2, 1}, 1, 4)
	check(4, []int{1, 0, 1, 1, 1, 1}, 1)
	check(5, []int{1, 0, 1, 1, 1, 1}, 1)
}

// TestOrder (P15.2): by rising reasons, whatever the pods' places; who is ahead takes the room.
func TestOrder(t *testing.T) {
	s := zoned(of([]int{100, 100, 100, 20}, []int{20, 20, 20}), "x", "y", "y", "z")
	s.Pods[0].Where, s.Pods[1].Where = []api.Term{{Kind: api.TermNot, Key: "zone", Value: "x"}}, []api.Term{{Kind: api.TermNot, Key: "zone", Value: "y"}}
	s.Nodes[0].Cordon, s.Nodes[1].Cordon = true, true
	p := []int{0, 1, 1}
	checkTarget(t, s, p, drain(), []int{3, 1, 1}, api.Wrong{Why: 2, Pod: 1, Node: 1}) // n3, on which least is left, has room for one
	checkTarget(t, s, p, drain("n1"), []int{2, 3, 2})
	g := drain("n1")
	g.MaxMoves = 2
	checkTarget(t, s, p, g, []int{0, 3, 2}, api.Wrong{Why: 2, Pod: 0, Node: 0})
	g.MaxMoves = 1
	checkTarget(t, s, p, g, []int{0, 3, 1}, api.Wrong{Why: 1, Pod: 2, Node: 1}, api.Wrong{Why: 2, Pod: 0, Node: 0})
}

// TestReasons (P15.2): one that is to go by each of the reasons 2 to 5 goes; as none is asked again, also one whose reason has gone ahead of it.
func TestReasons(t *testing.T) {
	s, p := zoned(of([]int{100, 100, 100}, []int{10, 10}), "x", "x", "y"), []int{0, 0}
	check := func(bit int, want ...int) {
		t.Helper()
		checkTarget(t, s, p, api.Goal{On: bit, MaxMoves: 9}, want)
		if bit > 0 {
			checkTarget(t, s, p, api.Goal{On: api.OnAll &^ bit, MaxMoves: 9}, p)
		}
	}
	s.Pods[1].Where = is("zone", "y")
	check(0, 0, 2)
	s.Pods[1].Where, s.Nodes[0].Taints, s.Pods[0].Bears = nil, pairs("gpu", "1"), pairs("gpu", "*")
	check(api.OnTaint, 0, 1)
	s.Nodes[0].Taints, s.Pods[0].Labels, s.Pods[1].Apart = nil, pairs("app", "web"), api.Near{Topo: "zone", Terms: is("app", "web")}
	check(api.OnWith, 0, 2)
	s.Pods[1].Apart, s.Pods[0].With = api.Near{}, api.Near{Topo: "zone", Terms: is("app", "db")}
	s.Pods = append(s.Pods, api.Pod{Name: "pc", Labels: pairs("app", "db")})
	p = []int{0, 0, 2}
	check(api.OnWith, 2, 0, 2)
	s.Pods, p = s.Pods[:2], []int{0, 0}
	s.Pods[0].With = api.Near{}
	s.Owners, s.Pods[0].Owner, s.Pods[1].Owner = []api.Owner{{Name: "o", Single: true}}, "o", "o"
	check(api.OnDouble, 1, 2)
	s.Owners[0] = api.Owner{Name: "o", Topo: "zone", Skew: 1}
	check(api.OnSpread, 2, 1)
}

// TestHigh (P15.2): pods of a high node go as long as it is one, and where they make none; behind that nothing is done with them, nor told.
func TestHigh(t *testing.T) {
	s, p := of([]int{100, 100, 100}, []int{30, 30, 30, 40}), []int{0, 0, 0, 1}
	stay := func(pods ...int) (l []api.Wrong) {
		for _, pod := range pods {
			l = append(l, api.Wrong{Why: 6, Pod: pod, Node: 0})
		}
		return l
	}
	high := func(high, moves int) api.Goal { return api.Goal{High: [2]int{high, 0}, MaxMoves: moves} }
	checkChoices(t, s, p, high(600, 9), 0, 1, 2)
	checkTarget(t, s, p, high(600, 9), []int{2, 0, 0, 1}) // n1 would be high; behind that n0 is not any more
	checkTarget(t, s, p, high(599, 9), []int{2, 0, 0, 1}, stay(1, 2)...)
	checkTarget(t, s, p, high(700, 9), []int{1, 0, 0, 1})
	checkTarget(t, s, p, high(699, 9), []int{2, 0, 0, 1})
	checkTarget(t, s, p, high(900, 9), p)
	checkTarget(t, s, p, high(0, 9), p)
	checkTarget(t, s, p, high(300, 9), []int{2, 0, 0, 1}, append(stay(1, 2), api.Wrong{Why: 6, Pod: 3, Node: 1})...)
	checkTarget(t, s, p, high(600, 0), p, stay(0, 1, 2)...)
	checkTarget(t, s, p, high(600, 1), []int{2, 0, 0, 1}, stay(1, 2)...) // so many have gone: that is asked first
	checkTarget(t, s, p, high(600, 2), []int{2, 0, 0, 1})
	s.Nodes[2].Cordon = true
	checkTarget(t, s, p, high(600, 9), p, stay(0, 1, 2)...)
	s.Pods[2].Req = api.Vec{20} // that one makes n1 not high
	checkTarget(t, s, p, high(600, 9), []int{0, 0, 1, 1}, stay(0, 1)...)
	s.Pods[2].Req = api.Vec{30, 1} // no node has memory, so that n0 is high as long as it is there
	checkTarget(t, s, p, api.Goal{High: [2]int{0, 999}, MaxMoves: 9}, []int{1, 1, 0, 1}, stay(2)...)
}

// TestHighEarlier (P15.2): a node that is no high one any more when it is its pods' turn is left alone; one that has got high by that has nobody who is to go.
func TestHighEarlier(t *testing.T) {
	s := zoned(of([]int{100, 100, 100}, []int{50, 40, 30}), "x", "y", "y")
	s.Pods[0].Where = is("zone", "y")
	p := []int{0, 0, 1}
	checkTarget(t, s, p, api.Goal{High: [2]int{700, 0}, MaxMoves: 9}, []int{1, 0, 1}) // pod 0 goes by 2, and makes n1 high
}

// TestEmpty (P15.2, P15.7): all pods of a low node go where they make none high, and where there are pods.
func TestEmpty(t *testing.T) {
	s, p := of([]int{100, 100, 100, 100}, []int{20, 50, 70}), []int{0, 1, 3}
	stay := api.Wrong{Why: 7, Pod: 0, Node: 0}
	checkTarget(t, s, p, bounds(300, 900, 9), []int{3, 1, 3})
	checkTarget(t, s, p, bounds(300, 899, 9), []int{1, 1, 3}) // n3 would be high
	checkTarget(t, s, p, bounds(201, 700, 9), []int{1, 1, 3})
	checkTarget(t, s, p, bounds(201, 699, 9), p, api.Wrong{Why: 6, Pod: 2, Node: 3}, stay)
	checkTarget(t, s, p, bounds(200, 900, 9), p)
	checkTarget(t, s, p, bounds(300, 900, 1), []int{3, 1, 3})
	checkTarget(t, s, p, bounds(300, 900, 0), p, stay)
	checkTarget(t, s, []int{0, wait, wait}, bounds(300, 900, 9), []int{0, wait, wait}, stay)
	g := bounds(300, 900, 9)
	g.On = api.OnAll &^ api.OnEmpty
	checkTarget(t, s, p, g, p)
	s.Nodes[1].Cordon, s.Nodes[3].Cordon = true, true
	checkTarget(t, s, p, bounds(300, 900, 9), p, stay) // n2 has no pods
	s.Nodes[1].Cordon = false
	checkTarget(t, s, p, bounds(300, 900, 9), []int{1, 1, 3})
}

// TestEmptyAll (P15.2): if one of them finds nothing, or they are too many, none goes, and all are told, rising; the greatest goes ahead.
func TestEmptyAll(t *testing.T) {
	s, p := of([]int{100, 100, 100}, []int{5, 20, 80, 90}), []int{0, 0, 1, 2}
	stay := []api.Wrong{{Why: 7, Pod: 0, Node: 0}, {Why: 7, Pod: 1, Node: 0}}
	checkTarget(t, s, p, bounds(300, 1000, 9), []int{2, 1, 1, 2})
	checkTarget(t, s, p, bounds(300, 1000, 2), []int{2, 1, 1, 2})
	checkTarget(t, s, p, bounds(300, 1000, 1), p, stay...)
	checkTarget(t, s, p, bounds(300, 1000, 0), p, stay...)
	s.Pods[3].Req = api.Vec{96}
	checkTarget(t, s, p, bounds(300, 1000, 9), p, stay...) // the greater one alone might go
	s.Pods[2].Req, s.Pods[3].Req = api.Vec{76}, api.Vec{80}
	checkTarget(t, s, p, bounds(300, 1000, 9), []int{1, 2, 1, 2}) // the smaller one, ahead, would take the greater one's room
}

// TestGivenUp (P15.2): a node that can't be emptied leaves the target as it was, and its pods are none that have gone; those of other reasons are not told again.
func TestGivenUp(t *testing.T) {
	s, p := zoned(of([]int{100, 100, 100}, []int{20, 5, 20, 50}), "x", "y", "y"), []int{0, 0, 1, 2}
	s.Pods[1].Where = is("zone", "x")
	stay := []api.Wrong{{Why: 7, Pod: 0, Node: 0}, {Why: 7, Pod: 1, Node: 0}}
	checkTarget(t, s, p, bounds(300, 1000, 9), []int{0, 0, 2, 2}, stay...)
	checkTarget(t, s, p, bounds(300, 1000, 1), []int{0, 0, 2, 2}, stay...)
	checkTarget(t, s, p, bounds(300, 1000, 0), p, append(slices.Clone(stay), api.Wrong{Why: 7, Pod: 2, Node: 1})...)
	s.Pods[1].Where = is("zone", "z")
	checkTarget(t, s, p, bounds(300, 1000, 9), []int{0, 0, 2, 2}, api.Wrong{Why: 2, Pod: 1, Node: 0}, stay[0])
}

// TestEmptyEach (P15.2, P15.7): nodes are emptied by rising places, each as it is then: it may have got pods, which go on, and may be no low one any more; to one that is emptied none goes.
func TestEmptyEach(t *testing.T) {
	stay := func(pod, node int) api.Wrong { return api.Wrong{Why: 7, Pod: pod, Node: node} }
	s := of([]int{100, 100, 100}, []int{10, 10, 50})
	checkTarget(t, s, []int{0, 1, 2}, bounds(300, 1000, 9), []int{2, 2, 2})
	checkTarget(t, s, []int{0, 1, 2}, bounds(300, 1000, 1), []int{2, 1, 2}, stay(1, 1))
	checkTarget(t, s, []int{1, 0, 2}, bounds(300, 1000, 1), []int{1, 2, 2}, stay(0, 1))
	s = of([]int{100, 100}, []int{10, 10})
	checkTarget(t, s, []int{0, 1}, bounds(300, 1000, 9), []int{1, 1}, stay(1, 1)) // the other one has gone, if from elsewhere
	checkTarget(t, s, []int{1, 0}, bounds(300, 1000, 9), []int{1, 1}, stay(0, 1))
	checkTarget(t, s, []int{0, 1}, bounds(200, 1000, 9), []int{1, 1}) // n1 is low no more
	s = of([]int{100, 100, 100}, []int{10, 10, 10})
	checkTarget(t, s, []int{0, 1, 2}, bounds(150, 1000, 9), []int{1, 1, 1})
	checkTarget(t, s, []int{0, 1, 2}, bounds(250, 1000, 9), []int{2, 2, 2})
	checkTarget(t, s, []int{0, 1, 2}, bounds(250, 1000, 2), []int{2, 2, 2}) // one of the two has gone twice
	checkTarget(t, s, []int{0, 1, 2}, bounds(250, 1000, 1), []int{1, 1, 2}, stay(1, 1), stay(2, 2))
}

// TestBack (P15.2): a pod that goes on to where it was is one that has gone all the same.
func TestBack(t *testing.T) {
	s, p := zoned(of([]int{100, 100, 100}, []int{5, 50, 30, 29, 20}), "x", "y", "x"), []int{0, 0, 0, 1, 2}
	s.Pods[0].Where = is("zone", "x")
	checkTarget(t, s, p, bounds(290, 790, 9), []int{0, 1, 0, 1, 0})
	checkTarget(t, s, p, bounds(290, 790, 3), []int{0, 1, 0, 1, 0}) // pods 0, 1, 4
	checkTarget(t, s, p, bounds(290, 790, 2), []int{2, 1, 0, 1, 2}, api.Wrong{Why: 6, Pod: 2, Node: 0}, api.Wrong{Why: 7, Pod: 4, Node: 2})
}

// TestToldAhead (P15.2): one that was found to stay is told, though it goes, later, with all others of its node.
func TestToldAhead(t *testing.T) {
	s := zoned(of([]int{100, 100, 300}, []int{10, 5, 90, 5, 100}), "y", "x", "y")
	s.Pods[0].Where = is("zone", "x")
	p := []int{0, 0, 1, 1, 2}
	stays := api.Wrong{Why: 2, Pod: 0, Node: 0} // n1 is too full, till pod 2 goes because it is high
	checkTarget(t, s, p, bounds(200, 940, 9), []int{1, 2, 2, 1, 2}, stays)
	checkTarget(t, s, p, bounds(0, 940, 9), []int{0, 0, 2, 1, 2}, stays)
}
