package admit

import (
	"drayage/api"
	"drayage/place"
	"drayage/safe"
)

// try answers what a step makes, and what is against it: nothing (nil), an error's number, or the clause that it makes worse. With anything against it, it makes nothing.
func try(s api.Snap, p []int, x api.Step) (q []int, against any) {
	q, e := place.Apply(s, p, x)
	if e != api.OK {
		return nil, e
	}
	if x.Kind == api.StepBind && s.Nodes[x.Node].Cordon {
		return nil, api.ErrStep
	}
	worse, _ := safe.Worse(s, p, q) // no error: of a placement that may be, Apply makes one that may be
	if len(worse) > 0 {
		return nil, worse[0]
	}
	return q, nil
}

// clauseOf answers the clause that is against a step; the zero one, if it is no clause.
func clauseOf(against any) api.Clause {
	if why, is := against.(api.Clause); is {
		return why
	}
	return api.Clause{}
}

// errorOf answers the error of a step, by what is against it.
func errorOf(against any) api.Errno {
	switch against.(type) {
	case nil:
		return api.OK
	case api.Clause:
		return api.ErrStep
	default:
		return against.(api.Errno) // what is against a step, and is no clause, can be nothing else
	}
}
