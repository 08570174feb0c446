package snap_test

import (
	"strings"
	"testing"

	"drayage/api"
	"drayage/scan"
	"drayage/snap"
)

func checkPrint(t *testing.T, s api.Snap, want string, e api.Errno) {
	t.Helper()
	if text, got := snap.Print(s); text != want || got != e {
		t.Errorf("Print(%v): %q, %d, not %q, %d", s, text, got, want, e)
	}
}

// TestPrint (P5.3): all that can be said, and nothing.
func TestPrint(t *testing.T) {
	checkPrint(t, full(), fullText, api.OK)
	checkPrint(t, api.Snap{}, "", api.OK)
	checkPrint(t, api.Snap{Nodes: []api.Node{}, Pods: []api.Pod{}, Owners: []api.Owner{}}, "", api.OK)
	checkPrint(t, some(1, 2, 1), "node n0000000\npod p0000000\npod p0000001\nowner o0000000\n", api.OK)
	empty := some(1, 1, 0)
	empty.Nodes[0].Labels, empty.Nodes[0].Taints = []api.Label{}, []api.Label{}
	empty.Pods[0].Labels, empty.Pods[0].Where, empty.Pods[0].Bears = []api.Label{}, []api.Term{}, []api.Label{}
	empty.Pods[0].With.Terms, empty.Pods[0].Apart.Terms = []api.Term{}, []api.Term{}
	checkPrint(t, empty, "node n0000000\npod p0000000\n", api.OK)
}

// TestPrintParts (P5.3): each part by itself.
func TestPrintParts(t *testing.T) {
	has := []api.Term{{Kind: api.TermHas, Key: "k"}}
	for want, n := range map[string]api.Node{
		"node a cap \"slots=2\"\n":          {Cap: api.Vec{0, 0, 0, 2}},
		"node a labels \"a=1,b=2\"\n":       {Labels: pairs("a", "1", "b", "2")},
		"node a taints \"a=-\"\n":           {Taints: pairs("a", "-")},
		"node a cordon\n":                   {Cordon: true},
		"node a lost\n":                     {Lost: true},
		"node a cordon lost\n":              {Cordon: true, Lost: true},
		"node a cap \"cpu=1500m\" cordon\n": {Cap: api.Vec{1500}, Cordon: true},
	} {
		n.Name = "a"
		checkBothWays(t, api.Snap{Nodes: []api.Node{n}}, want)
	}
	for want, p := range map[string]api.Pod{
		"pod a req \"disk=3Gi\"\n":                  {Req: api.Vec{0, 0, 3 << 30}},
		"pod a labels \"a=1\"\n":                    {Labels: pairs("a", "1")},
		"pod a where \"k\"\n":                       {Where: has},
		"pod a bears \"a=*\"\n":                     {Bears: pairs("a", "*")},
		"pod a with z \"k\"\n":                      {With: api.Near{Topo: "z", Terms: has}},
		"pod a with z \"\"\n":                       {With: api.Near{Topo: "z"}},
		"pod a apart z \"k\"\n":                     {Apart: api.Near{Topo: "z", Terms: has}},
		"pod a apart z \"\"\n":                      {Apart: api.Near{Topo: "z"}},
		"pod a with y \"k\" apart with \"k\"\n":     {With: api.Near{Topo: "y", Terms: has}, Apart: api.Near{Topo: "with", Terms: has}},
		"pod a where \"k\" bears \"a=1,a=2,b=*\"\n": {Where: has, Bears: pairs("a", "1", "a", "2", "b", "*")},
	} {
		p.Name = "a"
		checkBothWays(t, api.Snap{Pods: []api.Pod{p}}, want)
	}
	for want, o := range map[string]api.Owner{
		"owner a min 24\n":                   {Min: 24},
		"owner a spread z 1\n":               {Topo: "z", Skew: 1},
		"owner a single\n":                   {Single: true},
		"owner a min 1 single\n":             {Min: 1, Single: true},
		"owner a min 9 spread z 24 single\n": {Min: 9, Topo: "z", Skew: 24, Single: true},
	} {
		o.Name = "a"
		checkBothWays(t, api.Snap{Owners: []api.Owner{o}}, want)
	}
}

func checkBothWays(t *testing.T, s api.Snap, text string) {
	t.Helper()
	checkPrint(t, s, text, api.OK)
	checkParse(t, text, s)
}

// TestPrintedIsParsed (P5.7): what was printed is parsed as it was, in whatever order its lines stand, with comments and other blanks; what it prints then is the same.
func TestPrintedIsParsed(t *testing.T) {
	eachCluster(t, 500, func(s api.Snap) {
		text, e := snap.Print(s)
		if e != api.OK || len(text) > api.MaxText {
			t.Fatalf("Print(%v): %d bytes, %d", s, len(text), e)
		}
		checkParse(t, text, s)
		var turned, spread string
		for line := range strings.Lines(text) {
			turned = line + turned
			spread += "\n\t" + strings.ReplaceAll(strings.TrimSuffix(line, "\n"), " ", "  ") + " # x \" y\n"
		}
		checkParse(t, turned, s)
		checkParse(t, spread, s)
	})
}

// TestPrintedLines (P5.3): first all nodes, then all pods, then all owners, each in order, a line each with its end.
func TestPrintedLines(t *testing.T) {
	eachCluster(t, 200, func(s api.Snap) {
		text, _ := snap.Print(s)
		words, _, _, e := scan.Words(text)
		if e != api.OK {
			t.Fatalf("words of %q: %d", text, e)
		}
		var begins, want []string
		for at := 0; at < len(words); at += scan.Line(words, at) {
			begins = append(begins, words[at].Text+" "+words[at+1].Text+"\n")
		}
		for _, n := range s.Nodes {
			want = append(want, "node "+n.Name+"\n")
		}
		for _, p := range s.Pods {
			want = append(want, "pod "+p.Name+"\n")
		}
		for _, o := range s.Owners {
			want = append(want, "owner "+o.Name+"\n")
		}
		if got := strings.Join(begins, ""); got != strings.Join(want, "") || strings.Count(text, "\n") != len(want) {
			t.Fatalf("%q begins its lines with %q, not %q", text, got, want)
		}
		if strings.Contains(text, "  ") || strings.Contains(text, " \n") || text != "" && !strings.HasSuffix(text, "\n") {
			t.Fatalf("%q has other blanks", text)
		}
	})
}
