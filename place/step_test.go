package place_test

import (
	"math"
	"slices"
	"testing"

	"drayage/api"
	"drayage/place"
)

const (
	evict = api.StepEvict
	bind  = api.StepBind
)

func checkApply(t *testing.T, s api.Snap, p []int, x api.Step, want []int, e api.Errno) {
	t.Helper()
	if q, got := place.Apply(s, p, x); !slices.Equal(q, want) || got != e {
		t.Errorf("Apply(%v, %v): %v, %d, not %v, %d", p, x, q, got, want, e)
	}
}

func checkMoves(t *testing.T, p, q []int, want ...api.Move) {
	t.Helper()
	if l := place.Moves(p, q); !slices.Equal(l, want) {
		t.Errorf("Moves(%v, %v): %v, not %v", p, q, l, want)
	}
}

// TestApply (P7.4): steps that may be, of the first, a middle and the last pod and node.
func TestApply(t *testing.T) {
	s := full()
	p := []int{0, 2, wait, 3, 4, wait}
	for _, x := range []struct {
		step api.Step
		want []int
	}{
		{api.Step{Kind: evict, Pod: 0}, []int{wait, 2, wait, 3, 4, wait}},
		{api.Step{Kind: evict, Pod: 1}, []int{0, wait, wait, 3, 4, wait}}, // from a node that is cordoned
		{api.Step{Kind: evict, Pod: 4}, []int{0, 2, wait, 3, wait, wait}},
		{api.Step{Kind: bind, Pod: 2, Node: 0}, []int{0, 2, 0, 3, 4, wait}},
		{api.Step{Kind: bind, Pod: 2, Node: 2}, []int{0, 2, 2, 3, 4, wait}}, // to one: whether that may be done is not asked
		{api.Step{Kind: bind, Pod: 5, Node: 4}, []int{0, 2, wait, 3, 4, 4}},
	} {
		checkApply(t, s, p, x.step, x.want, api.OK)
	}
	checkApply(t, s, []int{0, 0, 0, 0, 0, 0}, api.Step{Kind: evict, Pod: 5}, []int{0, 0, 0, 0, 0, wait}, api.OK)
}

// TestApplyErrors (P7.4): each error, and which is told first.
func TestApplyErrors(t *testing.T) {
	s := full()
	p := []int{0, 2, wait, 3, 4, wait}
	for _, x := range []struct {
		step api.Step
		e    api.Errno
	}{
		{api.Step{}, api.ErrArg},
		{api.Step{Kind: 3}, api.ErrArg},
		{api.Step{Kind: -1, Pod: 2, Node: 1}, api.ErrArg},
		{api.Step{Kind: math.MinInt, Pod: 99, Node: 99}, api.ErrArg}, // ahead of ErrRange
		{api.Step{Kind: math.MaxInt, Pod: 2}, api.ErrArg},
		{api.Step{Kind: evict + 1<<32}, api.ErrArg},
		{api.Step{Kind: evict, Pod: 0, Node: 1}, api.ErrRange},
		{api.Step{Kind: evict, Pod: 0, Node: wait}, api.ErrRange},
		{api.Step{Kind: evict, Pod: 1, Node: 2}, api.ErrRange}, // its own node neither
		{api.Step{Kind: evict, Pod: 2, Node: 1}, api.ErrRange}, // ahead of ErrState
		{api.Step{Kind: evict, Pod: 2}, api.ErrState},
		{api.Step{Kind: evict, Pod: 5}, api.ErrState},
		{api.Step{Kind: bind, Pod: 6}, api.ErrRange},
		{api.Step{Kind: bind, Pod: 0, Node: 5}, api.ErrRange}, // ahead of ErrState
		{api.Step{Kind: bind, Pod: 0, Node: 0}, api.ErrState}, // it is there
		{api.Step{Kind: bind, Pod: 0, Node: 4}, api.ErrState},
		{api.Step{Kind: bind, Pod: 2, Node: 1}, api.ErrState}, // the node is lost
		{api.Step{Kind: bind, Pod: 0, Node: 1}, api.ErrState},
	} {
		checkApply(t, s, p, x.step, nil, x.e)
	}
	for _, pod := range far(len(s.Pods)) {
		checkApply(t, s, p, api.Step{Kind: evict, Pod: pod}, nil, api.ErrRange)
		checkApply(t, s, p, api.Step{Kind: bind, Pod: pod}, nil, api.ErrRange)
		checkApply(t, s, p, api.Step{Kind: bind, Pod: pod, Node: 1}, nil, api.ErrRange)
	}
	for _, node := range far(len(s.Nodes)) {
		checkApply(t, s, p, api.Step{Kind: bind, Pod: 2, Node: node}, nil, api.ErrRange)
		checkApply(t, s, p, api.Step{Kind: evict, Pod: 0, Node: node}, nil, api.ErrRange)
	}
	checkApply(t, api.Snap{}, nil, api.Step{}, nil, api.ErrArg)
	checkApply(t, api.Snap{}, nil, api.Step{Kind: evict}, nil, api.ErrRange)
	checkApply(t, api.Snap{Pods: s.Pods[5:]}, []int{wait}, api.Step{Kind: bind}, nil, api.ErrRange)
}

// TestApplyToNone (P7.4): Check's error is told ahead of all others, and nothing is beside it.
func TestApplyToNone(t *testing.T) {
	steps := []api.Step{{Kind: evict}, {Kind: bind, Pod: 2, Node: 3}, {Kind: 9, Pod: 9, Node: 9}, {Kind: bind, Pod: -1}, {Kind: bind, Pod: 2, Node: 1}}
	for _, x := range steps {
		for _, cluster := range notOnes() {
			s, e := cluster()
			checkApply(t, s, []int{0, 2, wait, 3, 4, 0}, x, nil, e)
			checkApply(t, s, nil, x, nil, e)
		}
		for _, p := range [][]int{nil, {0, 2, wait, 3, 4}, {0, 2, wait, 3, 4, 0, 0}, {0, 2, wait, 3, 4, 1}, {0, 2, wait, 3, 4, -2}, {0, 2, wait, 3, 4, 5}} {
			checkApply(t, full(), p, x, nil, api.ErrArg)
		}
	}
}

// TestMoves (P7.5): of any rows, as far as both go.
func TestMoves(t *testing.T) {
	p := []int{0, 1, wait, 3}
	checkMoves(t, nil, nil)
	checkMoves(t, p, p)
	checkMoves(t, p, nil)
	checkMoves(t, []int{}, p)
	checkMoves(t, p, []int{1}, api.Move{Pod: 0, To: 1})
	checkMoves(t, []int{1, wait}, p, api.Move{Pod: 0, To: 0}, api.Move{Pod: 1, To: 1})
	checkMoves(t, p, []int{0, 2, 0, wait, 5}, api.Move{Pod: 1, To: 2}, api.Move{Pod: 2, To: 0}, api.Move{Pod: 3, To: wait})
	checkMoves(t, []int{-9, math.MinInt, 7}, []int{math.MaxInt, -9, 7}, api.Move{Pod: 0, To: math.MaxInt}, api.Move{Pod: 1, To: -9})
	long := make([]int, 100000)
	long[99998] = 5
	checkMoves(t, make([]int, 99999), long, api.Move{Pod: 99998, To: 5})
	eachRow(5, 0, 2, func(l []int) {
		p, q := l[:2], l[2:]
		var want []api.Move
		if p[0] != q[0] {
			want = append(want, api.Move{Pod: 0, To: q[0]})
		}
		if p[1] != q[1] {
			want = append(want, api.Move{Pod: 1, To: q[1]})
		}
		checkMoves(t, p, q, want...)
	})
}
