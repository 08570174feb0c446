package policy_test

import (
	"fmt"
	"slices"
	"strings"
	"testing"
	"unsafe"

	"drayage/api"
	"drayage/policy"
)

// roomy makes a policy whose list has spare room, with something in it.
func roomy() api.Goal {
	g := full()
	g.Drain = append(make([]string, 0, 5), "n1", "n2", "spare", "a")[:2]
	return g
}

// TestOnlyRead (P6.4): what is handed in is not changed, its spare room neither, be it in order or not.
func TestOnlyRead(t *testing.T) {
	turned := roomy()
	slices.Reverse(turned.Drain)
	many := api.Goal{Drain: append(names(12), "b", "a")}
	for _, g := range []api.Goal{roomy(), turned, many, {}} {
		before := fmt.Sprintf("%#v", g.Drain[:cap(g.Drain)])
		policy.Check(g)
		policy.Print(g)
		policy.Drains(g, "n2")
		policy.Drains(g, "x")
		if after := fmt.Sprintf("%#v", g.Drain[:cap(g.Drain)]); after != before {
			t.Errorf("%s was changed to %s", before, after)
		}
	}
}

// isIn tells whether a text stands in the memory of another one.
func isIn(part, whole string) bool {
	p, w := uintptr(unsafe.Pointer(unsafe.StringData(part))), uintptr(unsafe.Pointer(unsafe.StringData(whole)))
	return part != "" && w <= p && p < w+uintptr(len(whole))
}

// TestNewMemory (P6.4): what is answered is new, and one that is written to changes no later one.
func TestNewMemory(t *testing.T) {
	text := strings.Clone(fullText)
	g, _, _, _ := policy.Parse(text)
	for _, name := range g.Drain {
		if isIn(name, text) {
			t.Errorf("%s stands in the text that was parsed", name)
		}
	}
	g.Drain[0], g.Drain[1] = "x", "y"
	g.Drain = append(g.Drain, "z")
	checkParse(t, text, full())
	one, alone := api.Goal{Drain: []string{"a"}}, "drain a\n"
	printed, _ := policy.Print(one)
	if isIn(one.Drain[0], printed) {
		t.Error("what was printed has memory of the policy")
	}
	one.Drain[0] = "b"
	if printed != alone {
		t.Errorf("%q, once the policy was written to", printed)
	}
	checkPrint(t, one, "drain b\n", api.OK)
}

// TestSameAnswer (R2): what is answered hangs on the arguments alone.
func TestSameAnswer(t *testing.T) {
	for range 200 {
		checkBothWays(t, full(), fullText)
		checkBothWays(t, api.Goal{On: api.OnAll}, "on doubles with taints spread empty\n")
		checkWrong(t, "on taints doubles", 1, 11, api.ErrForm)
	}
}
