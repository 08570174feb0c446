package heat_test

import (
	"math"
	"slices"
	"testing"

	"drayage/api"
	"drayage/heat"
)

const (
	most = api.MaxQty
	wait = api.Nowhere
)

// example makes the cluster of the chapter's examples.
func example() api.Snap {
	return api.Snap{
		Nodes: []api.Node{{Name: "a", Cap: api.Vec{100, 100}}, {Name: "b", Cap: api.Vec{100}}},
		Pods:  []api.Pod{{Name: "p", Req: api.Vec{30, 10}}, {Name: "q", Req: api.Vec{90, 1}}},
	}
}

// full makes one with a node that is cordoned (1), one that is lost (2), one that is both (3), and one that has neither cpu nor memory (5). Where its pods' On says that they are is not where the tests place them.
func full() api.Snap {
	return api.Snap{
		Nodes: []api.Node{
			{Name: "n0", Cap: api.Vec{1000, 1000}},
			{Name: "n1", Cap: api.Vec{1000, 1000, 1}, Cordon: true},
			{Name: "n2", Cap: api.Vec{1000, 1000}, Lost: true},
			{Name: "n3", Cordon: true, Lost: true},
			{Name: "n4", Cap: api.Vec{2000, 500, 0, 0, 7}},
			{Name: "n5", Cap: api.Vec{0, 0, 1000, 1000, 1000}},
		},
		Pods: []api.Pod{
			{Name: "p0", Owner: "o", Req: api.Vec{100, 200, 5000, 5000, 5000}, On: "n5"},
			{Name: "p1", Req: api.Vec{300, 1}},
			{Name: "p2", Owner: "o", Req: api.Vec{0, 0, 9}, On: "n4"},
			{Name: "p3", Req: api.Vec{0, 50}, On: "n0"},
			{Name: "p4", Req: api.Vec{1}},
		},
		Owners: []api.Owner{{Name: "o", Min: 1}},
	}
}

// low and high make policies that say nothing else; of a Low, High is all.
func low(cpu, mem int) api.Goal {
	return api.Goal{Low: [2]int{cpu, mem}, High: [2]int{1000, 1000}}
}

func high(cpu, mem int) api.Goal { return api.Goal{High: [2]int{cpu, mem}} }

// far are numbers that are no places of anything.
func far(count int) []int {
	return []int{count, count + 1, -1, -2, math.MaxInt, math.MinInt, math.MaxInt32, 1 << 32}
}

func checkShare(t *testing.T, s api.Snap, p []int, node, cpu, mem int) {
	t.Helper()
	if x := heat.Share(s, p, node); x != [2]int{cpu, mem} {
		t.Errorf("Share(%v, %d): %v, not %d %d", p, node, x, cpu, mem)
	}
}

func checkPods(t *testing.T, s api.Snap, p []int, node int, want ...int) {
	t.Helper()
	if l := heat.Pods(s, p, node); !slices.Equal(l, want) {
		t.Errorf("Pods(%v, %d): %v, not %v", p, node, l, want)
	}
}

func checkLow(t *testing.T, s api.Snap, p []int, g api.Goal, want ...int) {
	t.Helper()
	if l := heat.Low(s, p, g); !slices.Equal(l, want) {
		t.Errorf("Low(%v, %v): %v, not %v", p, g, l, want)
	}
}

func checkHigh(t *testing.T, s api.Snap, p []int, g api.Goal, want ...int) {
	t.Helper()
	if l := heat.High(s, p, g); !slices.Equal(l, want) {
		t.Errorf("High(%v, %v): %v, not %v", p, g, l, want)
	}
}

func checkIdle(t *testing.T, s api.Snap, p []int, want ...int) {
	t.Helper()
	if l := heat.Idle(s, p); !slices.Equal(l, want) {
		t.Errorf("Idle(%v): %v, not %v", p, l, want)
	}
}

// TestExamples holds the chapter's table. Of its Low 400 400 it does not say the High, which may not be less.
func TestExamples(t *testing.T) {
	s := example()
	checkShare(t, s, []int{0, wait}, 0, 300, 100)
	checkShare(t, s, []int{1, 1}, 1, 1200, 1000)
	checkShare(t, s, []int{0, 0}, 2, 0, 0)
	checkLow(t, s, []int{0, 1}, low(400, 400), 0)
	checkHigh(t, s, []int{0, 1}, high(500, 0), 1)
	checkIdle(t, s, []int{0, wait}, 1)
}

// TestShare (P12.1): what the pods of that node ask for of what it has, of cpu and of memory alone.
func TestShare(t *testing.T) {
	s := full()
	p := []int{1, 4, 0, 4, 1}
	for node, want := range [][2]int{{0, 0}, {101, 200}, {0, 0}, {0, 0}, {150, 102}, {0, 0}} {
		checkShare(t, s, p, node, want[0], want[1])
	}
	for _, p := range [][]int{{wait, wait, wait, wait, wait}, {wait, wait, 0, wait, wait}} {
		for node := range s.Nodes {
			checkShare(t, s, p, node, 0, 0)
		}
	}
	checkShare(t, s, []int{0, 0, 0, 0, 0}, 0, 401, 251)
	checkShare(t, s, []int{4, 4, 4, 4, 4}, 4, 200, 502)
	for _, node := range far(len(s.Nodes)) {
		checkShare(t, s, p, node, 0, 0)
		checkShare(t, s, []int{wait, wait, wait, wait, wait}, node, 0, 0)
	}
	checkShare(t, api.Snap{}, nil, 0, 0, 0)
	checkShare(t, api.Snap{Nodes: s.Nodes}, nil, 0, 0, 0)
}

// TestShareOf (P12.1): it is rounded down, goes beyond the whole, and of nothing is 0, or all.
func TestShareOf(t *testing.T) {
	for _, x := range []struct{ asked, has, want int }{
		{0, 0, 0},
		{0, 1, 0},
		{0, most, 0},
		{1, 0, 1000},
		{2, 0, 1000},
		{most, 0, 1000},
		{1, 1, 1000},
		{1, 2, 500},
		{1, 3, 333},
		{2, 3, 666},
		{999, 1000, 999},
		{1000, 1001, 999},
		{1001, 1000, 1001},
		{1, 1000, 1},
		{1, 1001, 0},
		{2001, 2000, 1000},
		{2002, 2000, 1001},
		{5, 2, 2500},
		{most, most, 1000},
		{most - 1, most, 999},
		{1, most, 0},
		{most, 1, most * 1000},
	} {
		s := example()
		s.Nodes[1].Cap = api.Vec{}
		for kind := range 2 {
			s.Nodes[0].Cap, s.Pods[0].Req, s.Pods[1].Req = api.Vec{}, api.Vec{}, api.Vec{}
			s.Nodes[0].Cap[kind], s.Pods[0].Req[kind] = x.has, x.asked
			want := [2]int{}
			want[kind] = x.want
			checkShare(t, s, []int{0, 0}, 0, want[0], want[1])
			checkShare(t, s, []int{1, 0}, 0, 0, 0)
			s.Pods[0].Req[kind], s.Pods[1].Req[kind] = x.asked/2, x.asked-x.asked/2
			checkShare(t, s, []int{0, 0}, 0, want[0], want[1])
		}
	}
}

// TestPods (P12.1): those on that node, rising; those that wait are on none.
func TestPods(t *testing.T) {
	s := full()
	p := []int{4, 0, 4, wait, 4}
	for node, want := range [][]int{{1}, {}, {}, {}, {0, 2, 4}, {}} {
		checkPods(t, s, p, node, want...)
	}
	for _, node := range far(len(s.Nodes)) {
		checkPods(t, s, p, node)
		checkPods(t, s, []int{wait, wait, wait, wait, wait}, node)
	}
	checkPods(t, s, []int{5, 5, 5, 5, 5}, 5, 0, 1, 2, 3, 4)
	checkPods(t, s, []int{1, 1, 1, wait, 1}, 1, 0, 1, 2, 4)
	checkPods(t, s, []int{wait, wait, wait, wait, wait}, 0)
	checkPods(t, api.Snap{}, nil, 0)
	checkPods(t, api.Snap{}, nil, -1)
}

// TestLow (P12.2): both shares are below the policy's, and there are pods.
func TestLow(t *testing.T) {
	s := full()
	p := []int{0, 1, wait, 4, wait} // shares: 100 200, 300 1, none, none, 0 100, none
	checkLow(t, s, p, low(1000, 1000), 0, 1, 4)
	checkLow(t, s, p, low(101, 201), 0, 4)
	checkLow(t, s, p, low(100, 201), 4) // not below, of cpu
	checkLow(t, s, p, low(101, 200), 4) // not below, of memory
	checkLow(t, s, p, low(301, 201), 0, 1, 4)
	checkLow(t, s, p, low(300, 201), 0, 4)
	checkLow(t, s, p, low(301, 2), 1) // the fullest of cpu alone
	checkLow(t, s, p, low(1, 101), 4)
	checkLow(t, s, p, low(1, 100))
	checkLow(t, s, p, low(0, 0))
	checkLow(t, s, p, low(0, 1000)) // none is below 0
	checkLow(t, s, p, low(1000, 0))
	checkLow(t, s, p, api.Goal{})
	checkLow(t, s, []int{wait, wait, wait, wait, wait}, low(1000, 1000)) // no pods
	checkLow(t, s, []int{wait, wait, 0, wait, wait}, low(1, 1), 0)       // one that asks for neither
	checkLow(t, s, []int{wait, wait, 5, wait, wait}, low(1, 1), 5)       // of a node that has neither
	checkLow(t, s, []int{wait, wait, 5, wait, 5}, low(1000, 1000))       // it has no cpu, and is asked for one
	checkLow(t, s, []int{wait, wait, 5, 5, wait}, low(1000, 1000))
	checkLow(t, api.Snap{}, nil, low(1000, 1000))
	checkLow(t, api.Snap{Nodes: s.Nodes}, nil, low(1000, 1000))
	s.Pods[0].Req[api.Cpu] = 1000
	checkLow(t, s, p, low(1000, 1000), 1, 4) // one that is full is not below the whole
	s.Pods[0].Req[api.Cpu] = 999
	checkLow(t, s, p, low(1000, 1000), 0, 1, 4)
}

// TestHigh (P12.2): one of the shares is above the policy's, unless that is 0.
func TestHigh(t *testing.T) {
	s := full()
	p := []int{0, 1, wait, 4, wait} // shares: 100 200, 300 1, none, none, 0 100, none
	checkHigh(t, s, p, high(1000, 1000))
	checkHigh(t, s, p, high(0, 0))
	checkHigh(t, s, p, high(1, 1), 0, 1, 4)
	checkHigh(t, s, p, high(99, 1000), 0, 1)
	checkHigh(t, s, p, high(100, 1000), 1) // not above, of cpu
	checkHigh(t, s, p, high(100, 200), 1)
	checkHigh(t, s, p, high(300, 200)) // not above, of either
	checkHigh(t, s, p, high(299, 1000), 1)
	checkHigh(t, s, p, high(300, 1000))
	checkHigh(t, s, p, high(1000, 199), 0) // of memory alone
	checkHigh(t, s, p, high(1000, 99), 0, 4)
	checkHigh(t, s, p, high(1000, 100), 0)
	checkHigh(t, s, p, high(0, 1), 0, 4) // none is above a 0 of cpu, nor is 1 above 1
	checkHigh(t, s, p, high(1, 0), 0, 1)
	checkHigh(t, s, p, high(0, 199), 0)
	checkHigh(t, s, p, high(299, 0), 1)
	checkHigh(t, s, []int{wait, wait, wait, wait, wait}, high(1, 1))
	checkHigh(t, s, []int{wait, wait, 5, wait, wait}, high(1, 1)) // of nothing nothing
	checkHigh(t, s, []int{wait, wait, wait, wait, 5}, high(999, 0), 5)
	checkHigh(t, s, []int{wait, wait, wait, wait, 5}, high(1000, 0)) // of nothing all, and no more
	checkHigh(t, s, []int{wait, wait, wait, 5, wait}, high(1000, 999), 5)
	checkHigh(t, s, []int{wait, wait, wait, 5, wait}, high(999, 1000))
	checkHigh(t, api.Snap{}, nil, high(1, 1))
	checkHigh(t, api.Snap{Nodes: s.Nodes}, nil, high(1, 1))
	s.Pods[0].Req[api.Cpu] = 1000
	checkHigh(t, s, p, high(1000, 1000)) // one that is full is not above the whole
	s.Pods[0].Req[api.Cpu] = 1001
	checkHigh(t, s, p, high(1000, 1000), 0)
	checkHigh(t, s, p, high(0, 1000))
}

// TestIdle (P12.2): no pods, and not lost; a cordon changes nothing.
func TestIdle(t *testing.T) {
	s := full()
	checkIdle(t, s, []int{wait, wait, wait, wait, wait}, 0, 1, 4, 5)
	checkIdle(t, s, []int{0, wait, wait, wait, wait}, 1, 4, 5)
	checkIdle(t, s, []int{5, 0, wait, wait, 5}, 1, 4)
	checkIdle(t, s, []int{0, 1, 4, 5, wait})
	checkIdle(t, s, []int{0, 0, 0, 0, 0}, 1, 4, 5)
	checkIdle(t, s, []int{wait, wait, 4, wait, wait}, 0, 1, 5) // one that asks for neither is a pod, too
	checkIdle(t, api.Snap{}, nil)
	checkIdle(t, api.Snap{Nodes: s.Nodes}, nil, 0, 1, 4, 5)
	for i := range s.Nodes {
		s.Nodes[i].Lost = true
	}
	for i := range s.Pods {
		s.Pods[i].On = ""
	}
	checkIdle(t, s, []int{wait, wait, wait, wait, wait})
}
