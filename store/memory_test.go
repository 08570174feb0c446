package store_test

import (
	"fmt"
	"reflect"
	"slices"
	"testing"

	"drayage/api"
	"drayage/store"
)

// span is where in memory something stands.
type span struct{ from, size uintptr }

// spans are those of all lists, with their spare room, and of all texts.
func spans(v reflect.Value) (l []span) {
	switch v.Kind() {
	case reflect.String:
		if v.Len() > 0 {
			l = append(l, span{uintptr(reflect.ValueOf(v.String()).Pointer()), uintptr(v.Len())})
		}
	case reflect.Slice:
		if v.Cap() > 0 {
			l = append(l, span{v.Pointer(), uintptr(v.Cap()) * v.Type().Elem().Size()})
		}
		for i := range v.Len() {
			l = append(l, spans(v.Index(i))...)
		}
	case reflect.Struct:
		for i := range v.NumField() {
			l = append(l, spans(v.Field(i))...)
		}
	}
	return l
}

func checkApart(t *testing.T, what string, a, b any) {
	t.Helper()
	for _, x := range spans(reflect.ValueOf(a)) {
		for _, y := range spans(reflect.ValueOf(b)) {
			if x.from < y.from+y.size && y.from < x.from+x.size {
				t.Fatalf("%s stand in one memory", what)
			}
		}
	}
}

// spare gives a list spare room, with something in it.
func spare[T any](l []T, more T) []T {
	l = append(slices.Clip(l), more)
	return l[:len(l)-1]
}

// roomy makes a cluster whose lists have spare room.
func roomy() api.Snap {
	s, label, term := full(), api.Label{Key: "zz", Value: "spare"}, api.Term{Kind: api.TermHas, Key: "spare"}
	for i := range s.Nodes {
		n := &s.Nodes[i]
		n.Labels, n.Taints = spare(n.Labels, label), spare(n.Taints, label)
	}
	for i := range s.Pods {
		p := &s.Pods[i]
		p.Labels, p.Bears, p.Where = spare(p.Labels, label), spare(p.Bears, label), spare(p.Where, term)
		p.With.Terms, p.Apart.Terms = spare(p.With.Terms, term), spare(p.Apart.Terms, term)
	}
	s.Nodes = spare(s.Nodes, api.Node{Name: "zz", Labels: pairs("zone", "spare")})
	s.Pods = spare(s.Pods, api.Pod{Name: "zz", Owner: "o", Req: api.Vec{77}})
	s.Owners = spare(s.Owners, api.Owner{Name: "zz"})
	return s
}

// whole tells all of a cluster, its spare room too.
func whole(s api.Snap) string {
	s.Nodes, s.Pods, s.Owners = s.Nodes[:cap(s.Nodes)], s.Pods[:cap(s.Pods)], s.Owners[:cap(s.Owners)]
	text := fmt.Sprintf("%#v", s)
	for _, n := range s.Nodes {
		text += fmt.Sprint(n.Labels[:cap(n.Labels)], n.Taints[:cap(n.Taints)])
	}
	for _, p := range s.Pods {
		text += fmt.Sprint(p.Labels[:cap(p.Labels)], p.Bears[:cap(p.Bears)], p.Where[:cap(p.Where)], p.With.Terms[:cap(p.With.Terms)], p.Apart.Terms[:cap(p.Apart.Terms)])
	}
	return text
}

// scribble writes over all numbers, texts and bools, those of lists and of their spare room too.
func scribble(v reflect.Value) {
	switch v.Kind() {
	case reflect.Int:
		v.SetInt(-77)
	case reflect.String:
		v.SetString("Scribbled")
	case reflect.Bool:
		v.SetBool(!v.Bool())
	case reflect.Slice:
		v.SetLen(v.Cap())
		for i := range v.Len() {
			scribble(v.Index(i))
		}
	case reflect.Array:
		for i := range v.Len() {
			scribble(v.Index(i))
		}
	case reflect.Struct:
		for i := range v.NumField() {
			scribble(v.Field(i))
		}
	}
}

// eachState goes through a store of that cluster from state to state.
func eachState(t *testing.T, s api.Snap, f func(x *store.Store)) {
	t.Helper()
	x := live(t, s)
	for _, c := range []call{{}, {"evict", 0, 0}, {"evict", 0, 0}, {"bind", 0, 1}, {"bind", 3, 0}, {"cordon", 0, 0}, {"gone", 1, 0}, {"gone", 9, 0}, {"lose", 0, 1}, {"lose", 0, 1}, {"lose", 0, 0}} {
		if c.name != "" {
			c.doOn(x)
		}
		f(x)
	}
}

// TestOnlyRead (P11.4): the cluster that is handed in is not changed, its spare room neither, be there an error or not, and whatever is done later.
func TestOnlyRead(t *testing.T) {
	s := roomy()
	before := whole(s)
	eachState(t, s, func(x *store.Store) {
		tell(x, s)
		if after := whole(s); after != before {
			t.Fatalf("the cluster was changed: %s, now %s", before, after)
		}
	})
	slices.Reverse(s.Pods) // sorting would be seen
	before = whole(s)
	if _, e := store.New(s); e != api.ErrSnap {
		t.Errorf("New of pods that fall: %d", e)
	}
	if after := whole(s); after != before {
		t.Errorf("the cluster was changed: %s, now %s", before, after)
	}
}

// TestNotKept (P11.4): what becomes of the cluster that was handed in, once there is a store, is nothing to it.
func TestNotKept(t *testing.T) {
	s, pristine := roomy(), roomy()
	x := live(t, s)
	checkApart(t, "the cluster that is handed in and Snap", s, x.Snap())
	before := tell(x, pristine)
	scribble(reflect.ValueOf(&s).Elem())
	if after := tell(x, pristine); after != before {
		t.Errorf("the store was changed: %s, now %s", before, after)
	}
	for _, c := range []call{{"evict", 0, 0}, {"bind", 0, 1}, {"lose", 0, 1}, {"gone", 2, 0}, {"bind", 3, 0}} {
		checkDone(t, c.name, c.doOn(x), api.OK)
	}
	checkPlaced(t, x, wait, wait, wait, 0, wait)
	checkUsed(t, x, api.Vec{8, 3}, api.Vec{})
	checkCounts(t, x, 0, 1, 0)
}

// TestNewMemory (P11.4): an answer that is written to changes neither the store nor another answer, and what is done later changes no answer.
func TestNewMemory(t *testing.T) {
	var old []api.Snap
	var told []string
	eachState(t, roomy(), func(x *store.Store) {
		before := tell(x, full())
		s, p, kept := x.Snap(), x.Placement(), x.Snap()
		checkApart(t, "two answers of Snap", s, kept)
		checkApart(t, "two answers of Placement", p, x.Placement())
		old, told = append(old, kept), append(told, whole(kept))
		scribble(reflect.ValueOf(&s).Elem())
		scribble(reflect.ValueOf(&p).Elem())
		if after := tell(x, full()); after != before {
			t.Fatalf("the store was changed: %s, now %s", before, after)
		}
		for i, s := range old {
			if text := whole(s); text != told[i] {
				t.Fatalf("an answer of Snap became another one: %s, now %s", told[i], text)
			}
		}
	})
}

// TestApartStores (R2): what is done to one store is nothing to another one of the same cluster.
func TestApartStores(t *testing.T) {
	s := full()
	other := live(t, s)
	before := tell(other, s)
	eachState(t, s, func(*store.Store) {
		if after := tell(other, s); after != before {
			t.Fatalf("another store was changed: %s, now %s", before, after)
		}
	})
	checkSnap(t, live(t, s), full())
}
