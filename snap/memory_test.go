package snap_test

import (
	"fmt"
	"reflect"
	"slices"
	"testing"

	"drayage/api"
	"drayage/snap"
)

// span is where in memory something stands.
type span struct {
	from, size uintptr
	list       bool
}

// spans are those of all lists, with their spare room, and of all texts.
func spans(v reflect.Value) (l []span) {
	switch v.Kind() {
	case reflect.String:
		if v.Len() > 0 {
			l = append(l, span{uintptr(reflect.ValueOf(v.String()).Pointer()), uintptr(v.Len()), false})
		}
	case reflect.Slice:
		if v.Cap() > 0 {
			l = append(l, span{v.Pointer(), uintptr(v.Cap()) * v.Type().Elem().Size(), true})
		}
		for i := range v.Len() {
			l = append(l, spans(v.Index(i))...)
		}
	case reflect.Struct:
		for i := range v.NumField() {
			l = append(l, spans(v.Field(i))...)
		}
	}
	return l
}

func (a span) meets(b span) bool {
	return a.from < b.from+b.size && b.from < a.from+a.size
}

// checkApart asks that an answer has nothing of what was handed in, and that its lists have nothing of each other.
func checkApart(t *testing.T, what string, answer any, handed ...any) {
	t.Helper()
	own := spans(reflect.ValueOf(answer))
	for _, h := range handed {
		for _, a := range own {
			for _, b := range spans(reflect.ValueOf(h)) {
				if a.meets(b) {
					t.Fatalf("%s has memory of what was handed in", what)
				}
			}
		}
	}
	for i, a := range own {
		for _, b := range own[:i] {
			if a.list && b.list && a.meets(b) {
				t.Fatalf("%s has two lists in one memory", what)
			}
		}
	}
}

// spare gives a list spare room, with something in it.
func spare[T any](l []T, more T) []T {
	l = append(slices.Clip(l), more)
	return l[:len(l)-1]
}

// roomy makes a cluster whose lists all have spare room.
func roomy() api.Snap {
	s := full()
	l, t := api.Label{Key: "zz", Value: "spare"}, api.Term{Kind: api.TermIs, Key: "zz", Value: "spare"}
	for i := range s.Nodes {
		n := &s.Nodes[i]
		n.Labels, n.Taints = spare(n.Labels, l), spare(n.Taints, l)
	}
	for i := range s.Pods {
		p := &s.Pods[i]
		p.Labels, p.Where, p.Bears = spare(p.Labels, l), spare(p.Where, t), spare(p.Bears, l)
		p.With.Terms, p.Apart.Terms = spare(p.With.Terms, t), spare(p.Apart.Terms, t)
	}
	s.Nodes = spare(s.Nodes, api.Node{Name: "spare", Labels: []api.Label{l}})
	s.Pods = spare(s.Pods, api.Pod{Name: "spare", Where: []api.Term{t}})
	s.Owners = spare(s.Owners, api.Owner{Name: "spare"})
	return s
}

// whole tells all of a cluster, its spare room too.
func whole(s api.Snap) string {
	s.Nodes, s.Pods, s.Owners = s.Nodes[:cap(s.Nodes)], s.Pods[:cap(s.Pods)], s.Owners[:cap(s.Owners)]
	text := fmt.Sprintf("%#v", s)
	for _, n := range s.Nodes {
		text += fmt.Sprintf("%#v", [][]api.Label{n.Labels[:cap(n.Labels)], n.Taints[:cap(n.Taints)]})
	}
	for _, p := range s.Pods {
		text += fmt.Sprintf("%#v", [][]api.Label{p.Labels[:cap(p.Labels)], p.Bears[:cap(p.Bears)]})
		text += fmt.Sprintf("%#v", [][]api.Term{p.Where[:cap(p.Where)], p.With.Terms[:cap(p.With.Terms)], p.Apart.Terms[:cap(p.Apart.Terms)]})
	}
	return text
}

// TestOnlyRead (P5.6): nothing that is handed in is changed, its spare room neither.
func TestOnlyRead(t *testing.T) {
	s := roomy()
	s.Nodes[0], s.Nodes[2] = s.Nodes[2], s.Nodes[0] // not in order, so that sorting would be seen
	placement := spare([]int{0, -1, 2}, 7)
	before := whole(s)
	for _, c := range []api.Snap{s, full(), {}} {
		snap.Check(c)
		snap.Print(c)
		snap.Copy(c)
		snap.Node(c, "n1")
		snap.Pod(c, "a")
		snap.Owner(c, "web")
		snap.Members(c, 1)
		snap.Placement(c)
		snap.With(c, placement)
	}
	if after := whole(s); after != before {
		t.Errorf("the cluster was changed: %s, now %s", before, after)
	}
	if got := placement[:4]; !slices.Equal(got, []int{0, -1, 2, 7}) {
		t.Errorf("the placement was changed: %v", got)
	}
}

// TestCopy (P5.3, P5.6): the same, in memory of its own; also of what may not be.
func TestCopy(t *testing.T) {
	broken := roomy()
	broken.Nodes[0].Name, broken.Pods[0].On, broken.Pods[0].Req[1], broken.Owners[0].Min = "", "x", -5, 99
	broken.Pods[0].Where[1].Kind, broken.Pods[1].With.Terms = 9, broken.Pods[0].Where
	for _, s := range []api.Snap{{}, full(), roomy(), broken, some(20, 40, 20), {Nodes: []api.Node{}, Pods: make([]api.Pod, 3)}} {
		c := snap.Copy(s)
		if !same(c, s) {
			t.Errorf("Copy(%v): %v", s, c)
		}
		checkApart(t, "Copy", c, s)
	}
	eachCluster(t, 200, func(s api.Snap) {
		if c := snap.Copy(s); !same(c, s) {
			t.Errorf("Copy(%v): %v", s, c)
		}
	})
}

// TestNewMemory (P5.6): what else is answered is new, and an answer that is written to changes no later one.
func TestNewMemory(t *testing.T) {
	s, placement := roomy(), []int{0, -1, 2}
	with, _ := snap.With(s, placement)
	checkApart(t, "With", with, s, placement)
	own := snap.Placement(s)
	checkApart(t, "Placement", own, s)
	parsed, _, _, _ := snap.Parse(fullText)
	checkApart(t, "Parse", parsed, fullText)
	members := snap.Members(s, 1)
	parsed.Nodes[0].Labels[0].Value, parsed.Pods[0].Where[0].Key, parsed.Owners[1].Name = "y", "y", "y"
	with.Nodes[0].Labels[0].Value, with.Pods[0].With.Terms[0].Key = "y", "y"
	own[0], members[0] = 9, 9
	checkParse(t, fullText, full())
	checkWith(t, s, placement, []string{"n1", "", "n3"})
	if got := snap.Placement(s); !slices.Equal(got, placement) {
		t.Errorf("Placement, once its answer was written to: %v", got)
	}
	if got := snap.Members(s, 1); !slices.Equal(got, []int{0, 1}) {
		t.Errorf("Members, once its answer was written to: %v", got)
	}
}
