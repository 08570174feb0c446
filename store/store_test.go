package store_test

import (
	"math"
	"reflect"
	"slices"
	"testing"

	"drayage/api"
	"drayage/snap"
	"drayage/store"
)

const (
	most = api.MaxQty
	wait = api.Nowhere
)

// pairs makes labels of keys and values that alternate.
func pairs(words ...string) (l []api.Label) {
	for i := 0; i < len(words); i += 2 {
		l = append(l, api.Label{Key: words[i], Value: words[i+1]})
	}
	return l
}

// example makes the cluster of the chapter's examples.
func example() api.Snap {
	return api.Snap{
		Nodes: []api.Node{{Name: "a"}, {Name: "b"}},
		Pods:  []api.Pod{{Name: "p", Req: api.Vec{10}, On: "a"}, {Name: "q", Req: api.Vec{10}}},
	}
}

// full makes one of nodes that are and are not cordoned and lost, pods of two owners and of none, and in which everything else says something.
func full() api.Snap {
	has := []api.Term{{Kind: api.TermHas, Key: "app"}}
	return api.Snap{
		Nodes: []api.Node{
			{Name: "a", Cap: api.Vec{50, 50, 50, 50, 50}, Labels: pairs("zone", "x"), Taints: pairs("gpu", "1")},
			{Name: "b", Labels: pairs("zone", "y"), Cordon: true},
			{Name: "c", Lost: true},
			{Name: "d", Cordon: true, Lost: true},
		},
		Pods: []api.Pod{
			{Name: "p", Owner: "o", Req: api.Vec{1, 10, 100, 1000, 10000}, Labels: pairs("app", "p"), Bears: pairs("gpu", "*"), On: "a"},
			{Name: "q", Owner: "o", Req: api.Vec{2, 0, 5}, Where: has, On: "b"},
			{Name: "r", Owner: "w", Req: api.Vec{4}, With: api.Near{Topo: "zone", Terms: has}, On: "a"},
			{Name: "s", Owner: "o", Req: api.Vec{8, 3}, Apart: api.Near{Topo: "zone"}},
			{Name: "t", Req: api.Vec{0, 7}, On: "b"},
		},
		Owners: []api.Owner{{Name: "n"}, {Name: "o", Min: 3, Topo: "zone", Skew: 1, Single: true}, {Name: "w", Min: 24}},
	}
}

func live(t *testing.T, s api.Snap) *store.Store {
	t.Helper()
	x, e := store.New(s)
	if e != api.OK || x == nil {
		t.Fatalf("New(%v): %v, %d", s, x, e)
	}
	return x
}

func checkDone(t *testing.T, what string, got, want api.Errno) {
	t.Helper()
	if got != want {
		t.Errorf("%s: %d, not %d", what, got, want)
	}
}

func checkPlaced(t *testing.T, x *store.Store, want ...int) {
	t.Helper()
	if p := x.Placement(); !slices.Equal(p, want) {
		t.Errorf("Placement: %v, not %v", p, want)
	}
}

func checkUsed(t *testing.T, x *store.Store, want ...api.Vec) {
	t.Helper()
	for node, used := range want {
		if u := x.Used(node); u != used {
			t.Errorf("Used(%d): %v, not %v", node, u, used)
		}
	}
}

func checkCounts(t *testing.T, x *store.Store, want ...int) {
	t.Helper()
	for owner, count := range want {
		if n := x.Count(owner); n != count {
			t.Errorf("Count(%d): %d, not %d", owner, n, count)
		}
	}
}

func checkGone(t *testing.T, x *store.Store, want ...bool) {
	t.Helper()
	for pod, gone := range want {
		if is := x.IsGone(pod); is != gone {
			t.Errorf("IsGone(%d): %t", pod, is)
		}
	}
}

// checkSnap asks for a cluster, its placement and all.
func checkSnap(t *testing.T, x *store.Store, want api.Snap) {
	t.Helper()
	if s := x.Snap(); !reflect.DeepEqual(s, want) {
		t.Errorf("Snap: %v, not %v", s, want)
	}
}

// TestExamples holds the chapter's table. Its second row goes on where the first one has led: p is on b then.
func TestExamples(t *testing.T) {
	x := live(t, example())
	checkDone(t, "Evict(0)", x.Evict(0), api.OK)
	checkDone(t, "Evict(0), again", x.Evict(0), api.ErrState)
	checkDone(t, "Bind(0, 1)", x.Bind(0, 1), api.OK)
	checkUsed(t, x, api.Vec{}, api.Vec{10})

	checkDone(t, "Lose(1)", x.Lose(1), api.OK)
	checkPlaced(t, x, wait, wait)
	checkDone(t, "Bind(0, 1)", x.Bind(0, 1), api.ErrState)
	checkDone(t, "Gone(1)", x.Gone(1), api.OK)
	checkDone(t, "Bind(1, 0)", x.Bind(1, 0), api.ErrState)
	checkDone(t, "Evict(2)", x.Evict(2), api.ErrRange)
}

// TestSecondRow holds the table's second row by itself: who is not on the lost node stays.
func TestSecondRow(t *testing.T) {
	x := live(t, example())
	checkDone(t, "Lose(1)", x.Lose(1), api.OK)
	checkPlaced(t, x, 0, wait)
	checkDone(t, "Bind(0, 1)", x.Bind(0, 1), api.ErrState)
	checkDone(t, "Gone(1)", x.Gone(1), api.OK)
	checkDone(t, "Bind(1, 0)", x.Bind(1, 0), api.ErrState)
	checkDone(t, "Evict(2)", x.Evict(2), api.ErrRange)
}

// far lists numbers that are no places of so many.
func far(count int) []int {
	return []int{count, count + 1, -1, -2, math.MaxInt, math.MinInt, math.MaxInt32, 1 << 32}
}

// TestNew (P11.1): a store has its cluster, none of whose pods is gone.
func TestNew(t *testing.T) {
	x := live(t, full())
	checkSnap(t, x, full())
	checkPlaced(t, x, 0, 1, 0, wait, 1)
	checkGone(t, x, false, false, false, false, false)
	checkUsed(t, x, api.Vec{5, 10, 100, 1000, 10000}, api.Vec{2, 7, 5}, api.Vec{}, api.Vec{})
	checkCounts(t, x, 0, 2, 1)
	x = live(t, api.Snap{})
	checkSnap(t, x, api.Snap{})
	checkPlaced(t, x)
}

// TestNewErrors (P11.1): snap.Check's error, and no store.
func TestNewErrors(t *testing.T) {
	for what, x := range map[string]struct {
		change func(s *api.Snap)
		e      api.Errno
	}{
		"nodes that fall":          {func(s *api.Snap) { slices.Reverse(s.Nodes) }, api.ErrSnap},
		"a pod without a name":     {func(s *api.Snap) { s.Pods[0].Name = "" }, api.ErrSnap},
		"an owner that is none":    {func(s *api.Snap) { s.Owners = nil }, api.ErrSnap},
		"a node that is none":      {func(s *api.Snap) { s.Pods[3].On = "e" }, api.ErrSnap},
		"a node that is lost":      {func(s *api.Snap) { s.Pods[3].On = "c" }, api.ErrSnap},
		"too many nodes":           {func(s *api.Snap) { s.Nodes = make([]api.Node, 9) }, api.ErrSnap},
		"too many pods":            {func(s *api.Snap) { s.Pods = make([]api.Pod, 25) }, api.ErrSnap},
		"far too many":             {func(s *api.Snap) { s.Pods = make([]api.Pod, 100000) }, api.ErrSnap},
		"below 0":                  {func(s *api.Snap) { s.Pods[0].Req[2] = -1 }, api.ErrSnap},
		"requests that go too far": {func(s *api.Snap) { s.Pods[1].Req[1] = most }, api.ErrOver},
		"nodes that go too far":    {func(s *api.Snap) { s.Nodes[1].Cap[4] = most }, api.ErrOver},
	} {
		s := full()
		x.change(&s)
		if got, e := store.New(s); got != nil || e != x.e || e != snap.Check(s) {
			t.Errorf("New of %s: %v, %d, not %d", what, got, e, x.e)
		}
	}
}

// TestEvict (P11.1): a pod that is on a node waits then; one that waits, for whatever reason, can't be taken off.
func TestEvict(t *testing.T) {
	x := live(t, full())
	checkDone(t, "Evict of one that waits", x.Evict(3), api.ErrState)
	checkDone(t, "Evict of the first", x.Evict(0), api.OK)
	checkPlaced(t, x, wait, 1, 0, wait, 1)
	checkUsed(t, x, api.Vec{4}, api.Vec{2, 7, 5})
	checkCounts(t, x, 0, 1, 1)
	checkDone(t, "Evict, again", x.Evict(0), api.ErrState)
	checkDone(t, "Evict of the last, off a node that is cordoned", x.Evict(4), api.OK)
	checkPlaced(t, x, wait, 1, 0, wait, wait)
	checkUsed(t, x, api.Vec{4}, api.Vec{2, 0, 5})
	checkDone(t, "Gone", x.Gone(2), api.OK)
	checkDone(t, "Evict of one that is gone", x.Evict(2), api.ErrState)
	checkDone(t, "Lose", x.Lose(1), api.OK)
	checkDone(t, "Evict of one whose node was lost", x.Evict(1), api.ErrState)
	checkGone(t, x, false, false, true, false, false)
}

// TestBind (P11.1): a pod that waits, and is not gone, is there then, if the node is not lost.
func TestBind(t *testing.T) {
	x := live(t, full())
	checkDone(t, "Bind of one that is there", x.Bind(0, 0), api.ErrState)
	checkDone(t, "Bind of one that is elsewhere", x.Bind(0, 1), api.ErrState)
	for _, node := range []int{2, 3} {
		checkDone(t, "Bind on a node that was lost from the beginning", x.Bind(3, node), api.ErrState)
		checkDone(t, "Bind of one that does not wait there", x.Bind(0, node), api.ErrState)
	}
	checkSnap(t, x, full())
	checkDone(t, "Bind", x.Bind(3, 0), api.OK)
	checkPlaced(t, x, 0, 1, 0, 0, 1)
	checkUsed(t, x, api.Vec{13, 13, 100, 1000, 10000}, api.Vec{2, 7, 5})
	checkCounts(t, x, 0, 3, 1)
	checkDone(t, "Gone", x.Gone(3), api.OK)
	checkDone(t, "Bind of one that is gone", x.Bind(3, 0), api.ErrState)
	checkDone(t, "Lose", x.Lose(1), api.OK)
	checkDone(t, "Bind on a lost node", x.Bind(4, 1), api.ErrState)
	checkDone(t, "Bind of one whose node was lost", x.Bind(4, 0), api.OK)
	checkPlaced(t, x, 0, wait, 0, wait, 0)
}

// TestNothingElse (P11.1): a bind asks neither for room, nor for a cordon, nor for anything that a pod or its owner wants; an evict asks for no least number.
func TestNothingElse(t *testing.T) {
	s := full()
	x := live(t, s)
	for pod := range s.Pods {
		if pod != 3 {
			checkDone(t, "Evict", x.Evict(pod), api.OK)
		}
	}
	checkCounts(t, x, 0, 0, 0)
	for pod := range s.Pods {
		checkDone(t, "Bind", x.Bind(pod, 1), api.OK)
	}
	checkPlaced(t, x, 1, 1, 1, 1, 1)
	checkUsed(t, x, api.Vec{}, api.Vec{15, 20, 105, 1000, 10000})
	checkCounts(t, x, 0, 3, 1)
}

// TestCordon (P11.2): laid and taken away, as often as one likes, but of a lost node; nobody moves for it.
func TestCordon(t *testing.T) {
	x, want := live(t, full()), full()
	for _, yes := range []bool{true, true, false, false, true} {
		for _, node := range []int{0, 1} {
			checkDone(t, "Cordon", x.Cordon(node, yes), api.OK)
			want.Nodes[node].Cordon = yes
			checkSnap(t, x, want)
		}
		for _, node := range []int{2, 3} {
			checkDone(t, "Cordon of a lost node", x.Cordon(node, yes), api.ErrState)
		}
		checkSnap(t, x, want)
	}
	checkDone(t, "Lose", x.Lose(0), api.OK)
	checkDone(t, "Cordon of a node that is lost now", x.Cordon(0, false), api.ErrState)
	if !x.Snap().Nodes[0].Cordon {
		t.Error("a cordon is gone with its node")
	}
}

// TestLose (P11.2): the node is lost for good, and its pods wait; nobody else moves, and none is gone.
func TestLose(t *testing.T) {
	x, want := live(t, full()), full()
	checkDone(t, "Lose of a lost node", x.Lose(2), api.ErrState)
	checkDone(t, "Lose of a lost node that is cordoned", x.Lose(3), api.ErrState)
	checkDone(t, "Lose of a node that is cordoned", x.Lose(1), api.OK)
	want.Nodes[1].Lost, want.Pods[1].On, want.Pods[4].On = true, "", ""
	checkSnap(t, x, want)
	checkPlaced(t, x, 0, wait, 0, wait, wait)
	checkUsed(t, x, api.Vec{5, 10, 100, 1000, 10000}, api.Vec{})
	checkCounts(t, x, 0, 1, 1)
	checkDone(t, "Lose, again", x.Lose(1), api.ErrState)
	checkDone(t, "Bind of one that was there", x.Bind(1, 0), api.OK)
	checkDone(t, "Lose of the last", x.Lose(0), api.OK)
	checkPlaced(t, x, wait, wait, wait, wait, wait)
	checkUsed(t, x, api.Vec{}, api.Vec{}, api.Vec{}, api.Vec{})
	checkGone(t, x, false, false, false, false, false)
	x = live(t, api.Snap{Nodes: []api.Node{{Name: "a"}}})
	checkDone(t, "Lose of a node without pods", x.Lose(0), api.OK)
	checkSnap(t, x, api.Snap{Nodes: []api.Node{{Name: "a", Lost: true}}})
}

// TestGone (P11.2): a pod is gone once, whether it waits or not; it keeps its place, waits, and the cluster tells it like any other.
func TestGone(t *testing.T) {
	x, want := live(t, full()), full()
	checkDone(t, "Gone of one that is on a node", x.Gone(0), api.OK)
	want.Pods[0].On = ""
	checkSnap(t, x, want)
	checkPlaced(t, x, wait, 1, 0, wait, 1)
	checkUsed(t, x, api.Vec{4}, api.Vec{2, 7, 5})
	checkCounts(t, x, 0, 1, 1)
	checkGone(t, x, true, false, false, false, false)
	checkDone(t, "Gone, again", x.Gone(0), api.ErrState)
	checkDone(t, "Gone of one that waits", x.Gone(3), api.OK)
	checkSnap(t, x, want)
	checkGone(t, x, true, false, false, true, false)
	checkDone(t, "Gone of it, again", x.Gone(3), api.ErrState)
	checkDone(t, "Lose", x.Lose(1), api.OK)
	checkDone(t, "Gone of one whose node was lost", x.Gone(1), api.OK)
	checkGone(t, x, true, true, false, true, false)
}

// TestRange (P11.1 to P11.3): there is no such pod, node or owner; of Bind whatever the other one is, and ahead of what it is asked for.
func TestRange(t *testing.T) {
	x := live(t, full())
	checkDone(t, "Gone", x.Gone(3), api.OK)
	for _, i := range far(5) {
		checkDone(t, "Evict", x.Evict(i), api.ErrRange)
		checkDone(t, "Gone", x.Gone(i), api.ErrRange)
		for _, node := range []int{0, 2, 3, i} {
			checkDone(t, "Bind of no pod", x.Bind(i, node), api.ErrRange)
		}
		if x.IsGone(i) {
			t.Errorf("IsGone(%d)", i)
		}
	}
	for _, i := range far(4) {
		checkDone(t, "Lose", x.Lose(i), api.ErrRange)
		checkDone(t, "Cordon", x.Cordon(i, true), api.ErrRange)
		checkDone(t, "Cordon", x.Cordon(i, false), api.ErrRange)
		for _, pod := range []int{0, 3, 4} {
			checkDone(t, "Bind on no node", x.Bind(pod, i), api.ErrRange)
		}
		if u := x.Used(i); u != (api.Vec{}) {
			t.Errorf("Used(%d): %v", i, u)
		}
	}
	for _, i := range far(3) {
		if n := x.Count(i); n != 0 {
			t.Errorf("Count(%d): %d", i, n)
		}
	}
	checkSnap(t, x, full())
	x = live(t, api.Snap{})
	checkDone(t, "Evict of none", x.Evict(0), api.ErrRange)
	checkDone(t, "Lose of none", x.Lose(0), api.ErrRange)
}

// TestNone (P11.1 to P11.3): of a store that is nil, or a zero one, ErrNil and nothing, whatever is asked of it.
func TestNone(t *testing.T) {
	for _, x := range []*store.Store{nil, {}, new(store.Store)} {
		for _, i := range append(far(1), 0) {
			checkDone(t, "Evict of none", x.Evict(i), api.ErrNil)
			checkDone(t, "Bind of none", x.Bind(i, i), api.ErrNil)
			checkDone(t, "Cordon of none", x.Cordon(i, i == 0), api.ErrNil)
			checkDone(t, "Lose of none", x.Lose(i), api.ErrNil)
			checkDone(t, "Gone of none", x.Gone(i), api.ErrNil)
			checkSnap(t, x, api.Snap{})
			checkPlaced(t, x)
			if x.IsGone(i) || x.Used(i) != (api.Vec{}) || x.Count(i) != 0 {
				t.Errorf("of none: %t, %v, %d", x.IsGone(i), x.Used(i), x.Count(i))
			}
		}
	}
}

// TestMost (P11.3): what nodes have is told up to the greatest sum that there may be, and down to nothing again.
func TestMost(t *testing.T) {
	s := api.Snap{Nodes: []api.Node{{Name: "a"}, {Name: "b"}}, Pods: []api.Pod{{Name: "p", Req: api.Vec{most, 1, 0, most - 1, most}}, {Name: "q", Req: api.Vec{0, most - 1, most, 1}}}}
	x := live(t, s)
	for node := range 2 {
		for pod := range 2 {
			checkDone(t, "Bind", x.Bind(pod, node), api.OK)
		}
		want := make([]api.Vec, 2)
		want[node] = api.Vec{most, most, most, most, most}
		checkUsed(t, x, want...)
		checkDone(t, "Evict", x.Evict(0), api.OK)
		want[node] = s.Pods[1].Req
		checkUsed(t, x, want...)
		checkDone(t, "Evict", x.Evict(1), api.OK)
		checkUsed(t, x, api.Vec{}, api.Vec{})
	}
}
