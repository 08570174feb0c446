package clause

import "drayage/api"

// view is a placement that may be, and its cluster.
type view struct {
	s api.Snap
	p []int
}

// subject is what a clause is about: one of the three below.
type subject interface {
	numbers() (a, b int) // what A and B of its clauses are
}

type ofNode struct{ node, quantity int }

type ofPod struct{ pod int } // which does not wait

type ofOwner struct{ owner int }

func (x ofNode) numbers() (a, b int)  { return x.node, x.quantity }
func (x ofPod) numbers() (a, b int)   { return x.pod, 0 }
func (x ofOwner) numbers() (a, b int) { return x.owner, 0 }

// subjects answers all that clauses may be about. Those of one type rise, so that the clauses of one kind do.
func (v view) subjects() []subject {
	var l []subject
	for node := range v.s.Nodes {
		for quantity := range api.Kinds {
			l = append(l, ofNode{node, quantity})
		}
	}
	for pod, node := range v.p {
		if node != api.Nowhere {
			l = append(l, ofPod{pod})
		}
	}
	for owner := range v.s.Owners {
		l = append(l, ofOwner{owner})
	}
	return l
}

// rule is how the clauses of one kind are reckoned: by how much one is broken, and whether there is it. Of its fields that one is filled which is for what they are about.
type rule struct {
	node  func(v view, node, quantity int) (by int, is bool)
	pod   func(v view, pod int) (by int, is bool)
	owner func(v view, owner int) (by int, is bool)
}

// by reckons the clause that is about x; there is none, if the kind is not about such.
func (r rule) by(v view, x subject) (by int, is bool) {
	switch x := x.(type) {
	case ofNode:
		if r.node != nil {
			return r.node(v, x.node, x.quantity)
		}
	case ofPod:
		if r.pod != nil {
			return r.pod(v, x.pod)
		}
	case ofOwner:
		if r.owner != nil {
			return r.owner(v, x.owner)
		}
	}
	return 0, false
}
