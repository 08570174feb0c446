package place

import (
	"slices"

	"drayage/api"
)

// Apply answers the placement that a step makes.
func Apply(s api.Snap, p []int, x api.Step) ([]int, api.Errno) {
	if e := Check(s, p); e != api.OK {
		return nil, e
	}
	switch x.Kind {
	case api.StepEvict:
		return evict(p, x)
	case api.StepBind:
		return bind(s, p, x)
	}
	return nil, api.ErrArg
}

func evict(p []int, x api.Step) ([]int, api.Errno) {
	if !isPlace(x.Pod, len(p)) || x.Node != 0 {
		return nil, api.ErrRange
	}
	if p[x.Pod] == api.Nowhere {
		return nil, api.ErrState
	}
	return with(p, x.Pod, api.Nowhere), api.OK
}

func bind(s api.Snap, p []int, x api.Step) ([]int, api.Errno) {
	if !isPlace(x.Pod, len(p)) || !isPlace(x.Node, len(s.Nodes)) {
		return nil, api.ErrRange
	}
	if p[x.Pod] != api.Nowhere || s.Nodes[x.Node].Lost {
		return nil, api.ErrState
	}
	return with(p, x.Pod, x.Node), api.OK
}

// with answers a copy in which one pod is elsewhere.
func with(p []int, pod, node int) []int {
	q := slices.Clone(p)
	q[pod] = node
	return q
}

// Moves answers what is unlike in two rows of numbers, as far as both go.
func Moves(p, q []int) []api.Move {
	var moves []api.Move
	for pod := range min(len(p), len(q)) {
		if p[pod] != q[pod] {
			moves = append(moves, api.Move{Pod: pod, To: q[pod]})
		}
	}
	return moves
}
