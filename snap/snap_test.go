package snap_test

import (
	"math"
	"reflect"
	"slices"
	"testing"

	"drayage/api"
	"drayage/snap"
)

const (
	letters15 = "abcdefghijklmno"
	letters16 = letters15 + "p"
)

// pairs makes labels of keys and values that alternate.
func pairs(words ...string) (l []api.Label) {
	for i := 0; i < len(words); i += 2 {
		l = append(l, api.Label{Key: words[i], Value: words[i+1]})
	}
	return l
}

// full makes a cluster of which no field says nothing.
func full() api.Snap {
	return api.Snap{
		Nodes: []api.Node{
			{Name: "n1", Cap: api.Vec{4000, 1 << 30, 0, 3, 0}, Labels: pairs("disk", "ssd", "zone", "x"), Taints: pairs("gpu", "1"), Cordon: true},
			{Name: "n2", Cap: api.Vec{1, 2, 3, 4, 5}, Lost: true},
			{Name: "n3"},
		},
		Pods: []api.Pod{
			{
				Name: "a", Owner: "web", On: "n1",
				Req:    api.Vec{500, 1},
				Labels: pairs("app", "web"),
				Where:  []api.Term{{Kind: api.TermIs, Key: "disk", Value: "ssd"}, {Kind: api.TermNot, Key: "zone", Value: "y"}, {Kind: api.TermHas, Key: "zone"}, {Kind: api.TermLacks, Key: "old"}},
				Bears:  pairs("gpu", "*", "gpu", "1"),
				With:   api.Near{Topo: "zone", Terms: []api.Term{{Kind: api.TermIs, Key: "app", Value: "db"}}},
				Apart:  api.Near{Topo: "host"},
			},
			{Name: "b", Owner: "web"},
			{Name: "c", On: "n3"},
		},
		Owners: []api.Owner{
			{Name: "db"},
			{Name: "web", Min: 1, Topo: "zone", Skew: 2, Single: true},
		},
	}
}

// same tells whether two clusters are, lists without elements being all one.
func same(a, b api.Snap) bool {
	return reflect.DeepEqual(noEmpty(reflect.ValueOf(a)), noEmpty(reflect.ValueOf(b)))
}

// noEmpty is the same value, in which each list without elements is nil.
func noEmpty(v reflect.Value) any {
	c := reflect.New(v.Type()).Elem()
	switch v.Kind() {
	case reflect.Struct:
		for i := range v.NumField() {
			c.Field(i).Set(reflect.ValueOf(noEmpty(v.Field(i))))
		}
	case reflect.Slice:
		for i := range v.Len() {
			c = reflect.Append(c, reflect.ValueOf(noEmpty(v.Index(i))))
		}
	default:
		c.Set(v)
	}
	return c.Interface()
}

// TestExamples holds the chapter's table.
func TestExamples(t *testing.T) {
	s := api.Snap{
		Nodes: []api.Node{{Name: "a", Cap: api.Vec{2000}}},
		Pods:  []api.Pod{{Name: "p", On: "a", Req: api.Vec{500}}},
	}
	const text = "node a cap \"cpu=2\"\npod p on a req \"cpu=500m\"\n"
	checkPrint(t, s, text, api.OK)
	checkParse(t, text, s)
	checkWrong(t, "pod p on x", 0, 0, api.ErrSnap)
	checkWrong(t, "node a cap", 1, 8, api.ErrTrunc)
	checkWrong(t, `node a cordon cap "cpu=1"`, 1, 15, api.ErrForm)
	checkWith(t, s, []int{-1}, []string{""})
	checkWith(t, s, []int{1}, nil)
}

// TestPlaces (P5.4): of each name, of none, and of one that stands there twice the first.
func TestPlaces(t *testing.T) {
	s := full()
	s.Nodes = append(s.Nodes, s.Nodes[1], api.Node{Name: "web"})
	s.Pods = append(s.Pods, s.Pods[1], api.Pod{Name: "n1"})
	s.Owners = append(s.Owners, s.Owners[1], api.Owner{Name: "a"})
	for name, want := range map[string][3]int{
		"n1":      {0, 4, -1},
		"n2":      {1, -1, -1},
		"n3":      {2, -1, -1},
		"web":     {4, -1, 1},
		"a":       {-1, 0, 3},
		"b":       {-1, 1, -1},
		"c":       {-1, 2, -1},
		"db":      {-1, -1, 0},
		"":        {-1, -1, -1},
		"N1":      {-1, -1, -1},
		"n":       {-1, -1, -1},
		"n1 ":     {-1, -1, -1},
		letters16: {-1, -1, -1},
	} {
		if got := [3]int{snap.Node(s, name), snap.Pod(s, name), snap.Owner(s, name)}; got != want {
			t.Errorf("%q: the places %v, not %v", name, got, want)
		}
		if none := (api.Snap{}); snap.Node(none, name) != -1 || snap.Pod(none, name) != -1 || snap.Owner(none, name) != -1 {
			t.Errorf("%q has a place in a cluster of nothing", name)
		}
	}
	unnamed := api.Snap{Nodes: make([]api.Node, 2), Pods: make([]api.Pod, 2), Owners: make([]api.Owner, 2)}
	if snap.Node(unnamed, "") != 0 || snap.Pod(unnamed, "") != 0 || snap.Owner(unnamed, "") != 0 {
		t.Error("the first one of an empty name is not told")
	}
}

// TestMembers (P5.4): an owner's pods, rising; of no owner nothing.
func TestMembers(t *testing.T) {
	s := api.Snap{
		Owners: []api.Owner{{Name: "a"}, {Name: "b"}, {Name: "c"}},
		Pods:   []api.Pod{{Name: "z", Owner: "c"}, {Name: "y", Owner: "a"}, {Name: "x"}, {Name: "a", Owner: "c"}, {Name: "b", Owner: "x"}, {Name: "c", Owner: "c"}},
	}
	for owner, want := range map[int][]int{
		0: {1}, 1: nil, 2: {0, 3, 5},
		3: nil, -1: nil, math.MaxInt: nil, math.MinInt: nil,
	} {
		if got := snap.Members(s, owner); !slices.Equal(got, want) {
			t.Errorf("Members(%d): %v, not %v", owner, got, want)
		}
	}
	if got := snap.Members(api.Snap{Pods: s.Pods}, 0); len(got) != 0 {
		t.Errorf("the members of an owner that there is not: %v", got)
	}
}

// TestPlacement (P5.5): by the nodes' names, Nowhere of none and of one that there is not.
func TestPlacement(t *testing.T) {
	s := full()
	s.Pods = append(s.Pods, api.Pod{On: "n2"}, api.Pod{On: "x"}, api.Pod{On: "a"}, api.Pod{On: "N1"})
	if got, want := snap.Placement(s), []int{0, -1, 2, 1, -1, -1, -1}; !slices.Equal(got, want) {
		t.Errorf("Placement: %v, not %v", got, want)
	}
	if got := snap.Placement(api.Snap{Nodes: s.Nodes}); len(got) != 0 {
		t.Errorf("the placement of no pods: %v", got)
	}
	unnamed := api.Snap{Nodes: make([]api.Node, 1), Pods: make([]api.Pod, 1)}
	if got := snap.Placement(unnamed); !slices.Equal(got, []int{-1}) {
		t.Errorf("a pod that waits is at %v", got)
	}
}

// checkWith asks that With answers the cluster with these On, and ErrArg alone, if they are nil.
func checkWith(t *testing.T, s api.Snap, placement []int, on []string) {
	t.Helper()
	got, e := snap.With(s, placement)
	if on == nil {
		if e != api.ErrArg || !reflect.DeepEqual(got, api.Snap{}) {
			t.Errorf("With(%v): %v, %d, not ErrArg", placement, got, e)
		}
		return
	}
	want := s
	want.Pods = slices.Clone(s.Pods)
	for i := range want.Pods {
		want.Pods[i].On = on[i]
	}
	if e != api.OK || !same(got, want) {
		t.Errorf("With(%v): %v, %d, not %v", placement, got, e, want)
	}
	if back := snap.Placement(got); !slices.Equal(back, placement) {
		t.Errorf("With(%v) has the placement %v", placement, back)
	}
}

// TestWith (P5.5): each placement of a few numbers, of three pods and of another count.
func TestWith(t *testing.T) {
	s := full() // its node 1 is lost
	names := map[int]string{-1: "", 0: "n1", 2: "n3"}
	numbers := []int{-2, -1, 0, 1, 2, 3, math.MinInt, math.MaxInt}
	for _, a := range numbers {
		for _, b := range numbers {
			for _, c := range numbers {
				on := make([]string, 3)
				for i, n := range []int{a, b, c} {
					name, is := names[n]
					if !is {
						on = nil
						break
					}
					on[i] = name
				}
				checkWith(t, s, []int{a, b, c}, on)
			}
		}
	}
	for _, placement := range [][]int{nil, {}, {0}, {0, 0}, {0, 0, 0, 0}, {-1, -1, -1, -1}} {
		checkWith(t, s, placement, nil)
	}
	checkWith(t, api.Snap{}, nil, []string{})
	checkWith(t, api.Snap{}, []int{}, []string{})
	checkWith(t, api.Snap{}, []int{-1}, nil)
	checkWith(t, api.Snap{Nodes: s.Nodes}, []int{0}, nil)
}

// TestWithItsOwn (P5.5): a cluster with its own placement is the same; one that may be may be with each one.
func TestWithItsOwn(t *testing.T) {
	eachCluster(t, 200, func(s api.Snap) {
		got, e := snap.With(s, snap.Placement(s))
		if e != api.OK || !same(got, s) {
			t.Fatalf("With its own placement: %v, %d, not %v", got, e, s)
		}
		for node := range s.Nodes {
			placement := make([]int, len(s.Pods))
			for i := range placement {
				placement[i] = node
			}
			got, e := snap.With(s, placement)
			if len(s.Pods) > 0 && (e == api.OK) == s.Nodes[node].Lost {
				t.Fatalf("With(%v) of %v: %d", placement, s, e)
			}
			if check := snap.Check(got); check != api.OK {
				t.Fatalf("With(%v) of %v may not be: %d", placement, s, check)
			}
		}
	})
}
