package snap_test

import (
	"fmt"
	"math"
	"testing"

	"drayage/api"
	"drayage/snap"
	"drayage/vec"
)

const most = api.MaxQty

func checkIs(t *testing.T, what string, s api.Snap, want api.Errno) {
	t.Helper()
	if e := snap.Check(s); e != want {
		t.Errorf("%s: %d, not %d", what, e, want)
	}
	checkRefused(t, s, want)
}

// checkRefused asks that Print has Check's error, and nothing beside it.
func checkRefused(t *testing.T, s api.Snap, e api.Errno) {
	t.Helper()
	if text, got := snap.Print(s); got != e || e != api.OK && text != "" {
		t.Errorf("Print of a cluster whose check is %d: %q, %d", e, text, got)
	}
}

// TestCheck (P5.1): a cluster that may be, and each way in which one field of it may be otherwise.
func TestCheck(t *testing.T) {
	checkIs(t, "full", full(), api.OK)
	checkIs(t, "nothing", api.Snap{}, api.OK)
	six := pairs("a", "1", "b", "1", "c", "1", "d", "1", "e", "1", "f", "1")
	seven := append(pairs("a", "0"), six...)
	terms := func(n int) []api.Term {
		l := make([]api.Term, n)
		for i := range l {
			l[i] = api.Term{Kind: api.TermHas, Key: "a"}
		}
		return l
	}
	for _, x := range []struct {
		what   string
		change func(s *api.Snap)
		want   api.Errno
	}{
		{"a node's name, long", func(s *api.Snap) { s.Nodes[2].Name = "z" + letters15[1:]; s.Pods[2].On = "" }, api.OK},
		{"a node's name, too long", func(s *api.Snap) { s.Nodes[2].Name = "z" + letters15; s.Pods[2].On = "" }, api.ErrSnap},
		{"a node's name, empty", func(s *api.Snap) { s.Nodes[0].Name = ""; s.Pods[0].On = "" }, api.ErrSnap},
		{"a node's name, with a capital", func(s *api.Snap) { s.Nodes[0].Name = "N1"; s.Pods[0].On = "" }, api.ErrSnap},
		{"nodes' names, twice one", func(s *api.Snap) { s.Nodes[1].Name = "n1" }, api.ErrSnap},
		{"nodes' names, falling", func(s *api.Snap) { s.Nodes[0], s.Nodes[1] = s.Nodes[1], s.Nodes[0] }, api.ErrSnap},
		{"nodes' names, the last falling", func(s *api.Snap) { s.Nodes[2].Name = "n0"; s.Pods[2].On = "n0" }, api.ErrSnap},
		{"a node named as a pod", func(s *api.Snap) { s.Nodes[0].Name = "a"; s.Pods[0].On = "a" }, api.OK},
		{"a cap below 0", func(s *api.Snap) { s.Nodes[2].Cap[4] = -1 }, api.ErrSnap},
		{"a cap too great", func(s *api.Snap) { s.Nodes[0].Cap[0] = most + 1 }, api.ErrSnap},
		{"six labels of a node", func(s *api.Snap) { s.Nodes[2].Labels = six }, api.OK},
		{"seven labels of a node", func(s *api.Snap) { s.Nodes[2].Labels = seven }, api.ErrSnap},
		{"a label without a value", func(s *api.Snap) { s.Nodes[0].Labels[0].Value = "" }, api.ErrSnap},
		{"labels that do not rise", func(s *api.Snap) { s.Nodes[0].Labels[0].Key = "zone" }, api.ErrSnap},
		{"a label of any value", func(s *api.Snap) { s.Nodes[0].Labels[1].Value = "*" }, api.ErrSnap},
		{"six taints", func(s *api.Snap) { s.Nodes[2].Taints = six }, api.OK},
		{"seven taints", func(s *api.Snap) { s.Nodes[2].Taints = seven }, api.ErrSnap},
		{"a taint of any value", func(s *api.Snap) { s.Nodes[0].Taints[0].Value = "*" }, api.ErrSnap},
		{"taints that do not rise", func(s *api.Snap) { s.Nodes[0].Taints = pairs("a", "1", "a", "2") }, api.ErrSnap},
		{"a cordon and a loss", func(s *api.Snap) { s.Nodes[1].Cordon = true }, api.OK},

		{"a pod's name, empty", func(s *api.Snap) { s.Pods[0].Name = "" }, api.ErrSnap},
		{"a pod's name, too long", func(s *api.Snap) { s.Pods[2].Name = "c" + letters15 }, api.ErrSnap},
		{"a pod's name, a number", func(s *api.Snap) { s.Pods[0].Name = "1" }, api.ErrSnap},
		{"pods' names, twice one", func(s *api.Snap) { s.Pods[1].Name = "c" }, api.ErrSnap},
		{"pods' names, falling", func(s *api.Snap) { s.Pods[1].Name = "d" }, api.ErrSnap},
		{"no owner", func(s *api.Snap) { s.Pods[0].Owner = "" }, api.OK},
		{"another owner", func(s *api.Snap) { s.Pods[0].Owner = "db" }, api.OK},
		{"an owner that there is not", func(s *api.Snap) { s.Pods[0].Owner = "x" }, api.ErrSnap},
		{"an owner that is a pod", func(s *api.Snap) { s.Pods[0].Owner = "b" }, api.ErrSnap},
		{"no owners, but their pods", func(s *api.Snap) { s.Owners = nil }, api.ErrSnap},
		{"nobody's pods", func(s *api.Snap) { s.Owners = nil; s.Pods[0].Owner = ""; s.Pods[1].Owner = "" }, api.OK},
		{"on none", func(s *api.Snap) { s.Pods[0].On = "" }, api.OK},
		{"on another node", func(s *api.Snap) { s.Pods[0].On = "n3" }, api.OK},
		{"on a node that is lost", func(s *api.Snap) { s.Pods[1].On = "n2" }, api.ErrSnap},
		{"on a node that there is not", func(s *api.Snap) { s.Pods[1].On = "n4" }, api.ErrSnap},
		{"on a pod", func(s *api.Snap) { s.Pods[1].On = "a" }, api.ErrSnap},
		{"a node that is lost with its pod", func(s *api.Snap) { s.Nodes[2].Lost = true }, api.ErrSnap},
		{"no nodes, but pods on them", func(s *api.Snap) { s.Nodes = nil }, api.ErrSnap},
		{"a req below 0", func(s *api.Snap) { s.Pods[0].Req[2] = -1 }, api.ErrSnap},
		{"a req too great", func(s *api.Snap) { s.Pods[0].Req[4] = most + 1 }, api.ErrSnap},
		{"six labels of a pod", func(s *api.Snap) { s.Pods[1].Labels = six }, api.OK},
		{"seven labels of a pod", func(s *api.Snap) { s.Pods[1].Labels = seven }, api.ErrSnap},
		{"a pod's label of any value", func(s *api.Snap) { s.Pods[0].Labels[0].Value = "*" }, api.ErrSnap},
		{"six terms", func(s *api.Snap) { s.Pods[1].Where = terms(6) }, api.OK},
		{"seven terms", func(s *api.Snap) { s.Pods[1].Where = terms(7) }, api.ErrSnap},
		{"a term of no kind", func(s *api.Snap) { s.Pods[0].Where[1].Kind = 5 }, api.ErrSnap},
		{"a term with a value too many", func(s *api.Snap) { s.Pods[0].Where[2].Value = "1" }, api.ErrSnap},
		{"a term of any value", func(s *api.Snap) { s.Pods[0].Where[0].Value = "*" }, api.ErrSnap},
		{"six that are borne", func(s *api.Snap) { s.Pods[1].Bears = six }, api.OK},
		{"seven that are borne", func(s *api.Snap) { s.Pods[1].Bears = seven }, api.ErrSnap},
		{"twice one that is borne", func(s *api.Snap) { s.Pods[0].Bears[1].Value = "*" }, api.ErrSnap},
		{"what is borne, falling", func(s *api.Snap) { s.Pods[0].Bears[1].Key = "a" }, api.ErrSnap},

		{"with nobody", func(s *api.Snap) { s.Pods[0].With = api.Near{} }, api.OK},
		{"with, without terms", func(s *api.Snap) { s.Pods[0].With.Terms = []api.Term{} }, api.OK},
		{"with, without a key", func(s *api.Snap) { s.Pods[0].With.Topo = "" }, api.ErrSnap},
		{"with, of a key that is none", func(s *api.Snap) { s.Pods[0].With.Topo = "1" }, api.ErrSnap},
		{"with, of a key too long", func(s *api.Snap) { s.Pods[0].With.Topo = letters16 }, api.ErrSnap},
		{"with six terms", func(s *api.Snap) { s.Pods[0].With.Terms = terms(6) }, api.OK},
		{"with seven terms", func(s *api.Snap) { s.Pods[0].With.Terms = terms(7) }, api.ErrSnap},
		{"with a term of no kind", func(s *api.Snap) { s.Pods[0].With.Terms[0].Kind = 0 }, api.ErrSnap},
		{"apart from nobody", func(s *api.Snap) { s.Pods[0].Apart = api.Near{Terms: []api.Term{}} }, api.OK},
		{"apart, with terms", func(s *api.Snap) { s.Pods[0].Apart.Terms = terms(6) }, api.OK},
		{"apart, without a key", func(s *api.Snap) { s.Pods[1].Apart.Terms = terms(1) }, api.ErrSnap},
		{"apart, of a key that is none", func(s *api.Snap) { s.Pods[0].Apart.Topo = "Zone" }, api.ErrSnap},
		{"apart, of seven terms", func(s *api.Snap) { s.Pods[0].Apart.Terms = terms(7) }, api.ErrSnap},

		{"an owner's name, empty", func(s *api.Snap) { s.Owners[0].Name = "" }, api.ErrSnap},
		{"an owner's name, too long", func(s *api.Snap) { s.Owners[0].Name = letters16 }, api.ErrSnap},
		{"an owner's name, long", func(s *api.Snap) { s.Owners[0].Name = letters15 }, api.OK},
		{"owners' names, twice one", func(s *api.Snap) { s.Owners[0].Name = "web" }, api.ErrSnap},
		{"owners' names, falling", func(s *api.Snap) { s.Owners[0].Name = "x" }, api.ErrSnap},
		{"a min of 24", func(s *api.Snap) { s.Owners[0].Min = 24 }, api.OK},
		{"a min of 25", func(s *api.Snap) { s.Owners[0].Min = 25 }, api.ErrSnap},
		{"a min below 0", func(s *api.Snap) { s.Owners[0].Min = -1 }, api.ErrSnap},
		{"a min far off", func(s *api.Snap) { s.Owners[0].Min = math.MinInt }, api.ErrSnap},
		{"a skew of 1", func(s *api.Snap) { s.Owners[1].Skew = 1 }, api.OK},
		{"a skew of 24", func(s *api.Snap) { s.Owners[1].Skew = 24 }, api.OK},
		{"a skew of 25", func(s *api.Snap) { s.Owners[1].Skew = 25 }, api.ErrSnap},
		{"a skew of 0", func(s *api.Snap) { s.Owners[1].Skew = 0 }, api.ErrSnap},
		{"a skew below 0", func(s *api.Snap) { s.Owners[1].Skew = -1 }, api.ErrSnap},
		{"a skew without a key", func(s *api.Snap) { s.Owners[0].Skew = 1 }, api.ErrSnap},
		{"a skew below 0, without a key", func(s *api.Snap) { s.Owners[0].Skew = -1 }, api.ErrSnap},
		{"no spread", func(s *api.Snap) { s.Owners[1].Topo, s.Owners[1].Skew = "", 0 }, api.OK},
		{"a spread of a key that is none", func(s *api.Snap) { s.Owners[1].Topo = "*" }, api.ErrSnap},
		{"a spread of a key too long", func(s *api.Snap) { s.Owners[1].Topo = letters16 }, api.ErrSnap},
	} {
		s := full()
		x.change(&s)
		checkIs(t, x.what, s, x.want)
	}
}

// some makes a cluster of so many nodes, pods and owners.
func some(nodes, pods, owners int) (s api.Snap) {
	for i := range nodes {
		s.Nodes = append(s.Nodes, api.Node{Name: fmt.Sprintf("n%07d", i)})
	}
	for i := range pods {
		s.Pods = append(s.Pods, api.Pod{Name: fmt.Sprintf("p%07d", i)})
	}
	for i := range owners {
		s.Owners = append(s.Owners, api.Owner{Name: fmt.Sprintf("o%07d", i)})
	}
	return s
}

// TestCheckLimits (P5.1): 8 nodes, 24 pods, 8 owners, and one more of each.
func TestCheckLimits(t *testing.T) {
	checkIs(t, "all limits", some(8, 24, 8), api.OK)
	for _, x := range [][3]int{{9, 0, 0}, {0, 25, 0}, {0, 0, 9}, {9, 24, 8}, {8, 25, 8}, {8, 24, 9}, {100000, 0, 0}, {0, 100000, 0}, {0, 0, 100000}} {
		checkIs(t, fmt.Sprint(x), some(x[0], x[1], x[2]), api.ErrSnap)
	}
	checkIs(t, "unnamed nodes", api.Snap{Nodes: make([]api.Node, 1)}, api.ErrSnap)
	checkIs(t, "unnamed pods", api.Snap{Pods: make([]api.Pod, 1)}, api.ErrSnap)
	checkIs(t, "unnamed owners", api.Snap{Owners: make([]api.Owner, 1)}, api.ErrSnap)
}

// TestCheckSums (P5.1, W1): the sums of Caps and of Reqs, each at its bound, in each place.
func TestCheckSums(t *testing.T) {
	for kind := range api.Kinds {
		for _, x := range []struct {
			caps, reqs []int
			want       api.Errno
		}{
			{[]int{most}, []int{most}, api.OK}, // nodes and pods are summed apart
			{[]int{most - 1, 1}, []int{1, most - 1}, api.OK},
			{[]int{most, 1}, nil, api.ErrOver},
			{nil, []int{most, 1}, api.ErrOver},
			{[]int{0, most, 0}, []int{0, 0, most}, api.OK},
			{[]int{most / 2, most / 2, 1}, []int{1}, api.ErrOver},
			{[]int{1}, []int{1, most / 2, most / 2}, api.ErrOver},
			{[]int{most, most, most, most, most, most, most, most}, nil, api.ErrOver},
			{[]int{most + 1}, nil, api.ErrSnap}, // one that may not be is told ahead of the sums
			{[]int{most, 1}, []int{-1}, api.ErrSnap},
			{[]int{math.MaxInt, math.MaxInt}, nil, api.ErrSnap},
		} {
			s := some(len(x.caps), len(x.reqs), 0)
			for i, n := range x.caps {
				s.Nodes[i].Cap[kind] = n
			}
			for i, n := range x.reqs {
				s.Pods[i].Req[kind] = n
			}
			checkIs(t, fmt.Sprintf("caps %v and reqs %v of %d", x.caps, x.reqs, kind), s, x.want)
		}
	}
	s := some(2, 2, 0) // each place is summed by itself
	s.Nodes[0].Cap, s.Nodes[1].Cap = api.Vec{most, 0, most}, api.Vec{0, most, 0, most, most}
	s.Pods[0].Req, s.Pods[1].Req = api.Vec{0, most}, api.Vec{most, 0, most, most, most}
	checkIs(t, "all places full", s, api.OK)
}

// TestSumsOfSome (P5.8): in clusters that may be, each sum of some nodes, and of some pods, may be.
func TestSumsOfSome(t *testing.T) {
	tight := some(8, 24, 0)
	for i := range tight.Nodes {
		tight.Nodes[i].Cap = api.Vec{most / 8, most / 8, most / 8, most / 8, most / 8}
	}
	for i := range tight.Pods {
		tight.Pods[i].Req = api.Vec{most / 24, most / 24, 0, 1, most / 24}
	}
	tight.Pods[23].Req[0] += most % 24
	checkIs(t, "tight", tight, api.OK)
	checkSums(t, tight)
	eachCluster(t, 200, func(s api.Snap) { checkSums(t, s) })
}

func checkSums(t *testing.T, s api.Snap) {
	t.Helper()
	var caps, reqs []api.Vec
	for _, n := range s.Nodes {
		caps = append(caps, n.Cap)
	}
	for _, p := range s.Pods {
		reqs = append(reqs, p.Req)
	}
	for bits := range 1 << 8 {
		checkSum(t, caps, bits)
		for _, spread := range []int{1, 1 << 8, 1 << 16, 1<<16 + 1<<8 + 1} {
			checkSum(t, reqs, bits*spread)
		}
	}
}

// checkSum asks that those rows whose bits are 1 have a sum.
func checkSum(t *testing.T, rows []api.Vec, bits int) {
	t.Helper()
	var some []api.Vec
	for i, v := range rows {
		if bits>>i&1 == 1 {
			some = append(some, v)
		}
	}
	if _, e := vec.Plus(some...); e != api.OK {
		t.Fatalf("the sum of %v may not be: %d", some, e)
	}
}
