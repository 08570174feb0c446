package policy_test

import (
	"fmt"
	"math"
	"slices"
	"strings"
	"testing"

	"drayage/api"
	"drayage/policy"
)

const (
	letters15 = "abcdefghijklmno"
	letters16 = letters15 + "p"
)

// full makes a policy of which no field says nothing.
func full() api.Goal {
	return api.Goal{
		Low:      [2]int{300, 255},
		High:     [2]int{800, 1000},
		On:       api.OnWith | api.OnSpread,
		Drain:    []string{"n1", "n2"},
		MaxMoves: 12,
		Tries:    3,
		Rollback: true,
	}
}

const fullText = "low 30% 25.5%\nhigh 80% 100%\non with spread\ndrain n1 n2\nmoves 12\ntries 3\nrollback\n"

// same tells whether two policies are, lists without elements being all one.
func same(a, b api.Goal) bool {
	return a.Low == b.Low && a.High == b.High && a.On == b.On && slices.Equal(a.Drain, b.Drain) &&
		a.MaxMoves == b.MaxMoves && a.Tries == b.Tries && a.Rollback == b.Rollback
}

// nothing tells whether a policy has nothing at all in it.
func nothing(g api.Goal) bool {
	return same(g, api.Goal{}) && len(g.Drain) == 0
}

// checkParse asks that a text says a policy.
func checkParse(t *testing.T, text string, want api.Goal) {
	t.Helper()
	if g, line, col, e := policy.Parse(text); e != api.OK || line != 0 || col != 0 || !same(g, want) {
		t.Errorf("Parse(%q): %v, %d, %d, %d, not %v", text, g, line, col, e, want)
	}
}

// checkWrong asks that a text is wrong there, and that nothing else is answered.
func checkWrong(t *testing.T, text string, line, col int, e api.Errno) {
	t.Helper()
	if g, l, c, got := policy.Parse(text); l != line || c != col || got != e || !nothing(g) {
		t.Errorf("Parse(%q): %v, %d, %d, %d, not %d, %d, %d", text, g, l, c, got, line, col, e)
	}
}

func checkPrint(t *testing.T, g api.Goal, want string, e api.Errno) {
	t.Helper()
	if text, got := policy.Print(g); text != want || got != e {
		t.Errorf("Print(%v): %q, %d, not %q, %d", g, text, got, want, e)
	}
}

func checkBothWays(t *testing.T, g api.Goal, text string) {
	t.Helper()
	checkPrint(t, g, text, api.OK)
	checkParse(t, text, g)
}

// checkIs asks of a policy whether it may be; one that may not isn't printed.
func checkIs(t *testing.T, what string, g api.Goal, want api.Errno) {
	t.Helper()
	if e := policy.Check(g); e != want {
		t.Errorf("Check of %s: %d, not %d", what, e, want)
	}
	if text, e := policy.Print(g); e != want || e != api.OK && text != "" {
		t.Errorf("Print of %s: %q, %d", what, text, e)
	}
}

// TestExamples holds the chapter's table.
func TestExamples(t *testing.T) {
	g := api.Goal{Low: [2]int{200, 0}, High: [2]int{1000, 1000}, On: 5, Drain: []string{"a"}, Tries: 2}
	checkBothWays(t, g, "low 20% 0%\nhigh 100% 100%\non doubles taints\ndrain a\ntries 2\n")
	checkWrong(t, "on", 1, 1, api.ErrTrunc)
	checkWrong(t, "tries 9", 0, 0, api.ErrGoal)
	checkWrong(t, "on taints doubles", 1, 11, api.ErrForm)
	checkWrong(t, "low 20% 30", 1, 9, api.ErrTrunc)
}

// TestCheck (P6.1): a policy that may be, and each way in which one field of it may be otherwise.
func TestCheck(t *testing.T) {
	checkIs(t, "full", full(), api.OK)
	checkIs(t, "nothing", api.Goal{}, api.OK)
	for _, x := range []struct {
		what   string
		change func(g *api.Goal)
		want   api.Errno
	}{
		{"no low", func(g *api.Goal) { g.Low = [2]int{} }, api.OK},
		{"all low and high", func(g *api.Goal) { g.Low, g.High = [2]int{1000, 1000}, [2]int{1000, 1000} }, api.OK},
		{"low as high", func(g *api.Goal) { g.Low = g.High }, api.OK},
		{"low as high, of cpu", func(g *api.Goal) { g.Low[0] = 800 }, api.OK},
		{"low above high, of cpu", func(g *api.Goal) { g.Low[0] = 801 }, api.ErrGoal},
		{"low above high, of memory", func(g *api.Goal) { g.High[1] = 254 }, api.ErrGoal},
		{"low above the other high", func(g *api.Goal) { g.Low[1] = 900 }, api.OK},
		{"low without high", func(g *api.Goal) { g.High = [2]int{} }, api.ErrGoal},
		{"low and high the other way", func(g *api.Goal) { g.Low, g.High = g.High, g.Low }, api.ErrGoal},
		{"low below 0, of cpu", func(g *api.Goal) { g.Low[0] = -1 }, api.ErrGoal},
		{"low below 0, of memory", func(g *api.Goal) { g.Low[1] = -1 }, api.ErrGoal},
		{"low and high below 0", func(g *api.Goal) { g.Low[0], g.High[0] = -2, -1 }, api.ErrGoal},
		{"high below 0", func(g *api.Goal) { g.Low[1], g.High[1] = 0, -1 }, api.ErrGoal},
		{"high above 1000, of cpu", func(g *api.Goal) { g.High[0] = 1001 }, api.ErrGoal},
		{"high above 1000, of memory", func(g *api.Goal) { g.High[1] = 1001 }, api.ErrGoal},
		{"low and high above 1000", func(g *api.Goal) { g.Low[1], g.High[1] = 1001, 1002 }, api.ErrGoal},
		{"low and high far off", func(g *api.Goal) { g.Low[0], g.High[0] = math.MinInt, math.MaxInt }, api.ErrGoal},
		{"on nothing", func(g *api.Goal) { g.On = 0 }, api.OK},
		{"on all", func(g *api.Goal) { g.On = api.OnAll }, api.OK},
		{"on a bit too many", func(g *api.Goal) { g.On = api.OnAll + 1 }, api.ErrGoal},
		{"on below 0", func(g *api.Goal) { g.On = -1 }, api.ErrGoal},
		{"on far off", func(g *api.Goal) { g.On = math.MinInt }, api.ErrGoal},
		{"moves 0", func(g *api.Goal) { g.MaxMoves = 0 }, api.OK},
		{"moves 48", func(g *api.Goal) { g.MaxMoves = 48 }, api.OK},
		{"moves 49", func(g *api.Goal) { g.MaxMoves = 49 }, api.ErrGoal},
		{"moves -1", func(g *api.Goal) { g.MaxMoves = -1 }, api.ErrGoal},
		{"tries 0", func(g *api.Goal) { g.Tries = 0 }, api.OK},
		{"tries 8", func(g *api.Goal) { g.Tries = 8 }, api.OK},
		{"tries 9", func(g *api.Goal) { g.Tries = 9 }, api.ErrGoal},
		{"tries -1", func(g *api.Goal) { g.Tries = -1 }, api.ErrGoal},
		{"no rollback", func(g *api.Goal) { g.Rollback = false }, api.OK},
	} {
		g := full()
		x.change(&g)
		checkIs(t, x.what, g, x.want)
	}
}

// names makes so many names, rising.
func names(count int) (l []string) {
	for i := range count {
		l = append(l, fmt.Sprintf("n%07d", i))
	}
	return l
}

// TestCheckDrain (P6.1): names that rise, eight at most.
func TestCheckDrain(t *testing.T) {
	for count := range 12 {
		want := api.OK
		if count > 8 {
			want = api.ErrGoal
		}
		checkIs(t, fmt.Sprint(count, " names"), api.Goal{Drain: names(count)}, want)
	}
	checkIs(t, "far too many names", api.Goal{Drain: names(100000)}, api.ErrGoal)
	checkIs(t, "a list without names", api.Goal{Drain: []string{}}, api.OK)
	checkIs(t, "some of more", api.Goal{Drain: names(20)[:8]}, api.OK)
	for _, x := range []struct {
		names string
		want  api.Errno
	}{
		{"a b c", api.OK},
		{"a b a", api.ErrGoal},
		{"a a", api.ErrGoal},
		{"b a", api.ErrGoal},
		{"a b b", api.ErrGoal},
		{"a a-", api.OK},
		{"a- a0 aa", api.OK},
		{"aa a0", api.ErrGoal},
		{"a10 a9", api.OK}, // as texts rise, not as numbers
		{"a9 a10", api.ErrGoal},
		{"on rollback", api.OK},
		{letters15, api.OK},
		{letters16, api.ErrGoal},
		{"a " + letters16, api.ErrGoal},
		{"A", api.ErrGoal},
		{"1a", api.ErrGoal},
		{"a -b", api.ErrGoal},
		{"a b_c", api.ErrGoal},
		{"a é", api.ErrGoal},
		{"a *", api.ErrGoal},
		{"a b\xff", api.ErrGoal},
	} {
		checkIs(t, x.names, api.Goal{Drain: strings.Split(x.names, " ")}, x.want)
	}
	checkIs(t, "an empty name", api.Goal{Drain: []string{""}}, api.ErrGoal)
	checkIs(t, "an empty name behind another", api.Goal{Drain: []string{"a", ""}}, api.ErrGoal)
	checkIs(t, "a name with a blank", api.Goal{Drain: []string{"a b"}}, api.ErrGoal)
	checkIs(t, "a name with a line's end", api.Goal{Drain: []string{"a\nrollback"}}, api.ErrGoal)
}

// TestDrains (P6.1): whether it is one of them, also of a policy that may not be.
func TestDrains(t *testing.T) {
	for _, x := range []struct {
		drain []string
		name  string
		want  bool
	}{
		{nil, "a", false},
		{nil, "", false},
		{[]string{"a"}, "a", true},
		{[]string{"a"}, "b", false},
		{[]string{"a"}, "", false},
		{[]string{"ab"}, "a", false},
		{[]string{"a"}, "ab", false},
		{[]string{"a", "b", "c"}, "b", true},
		{[]string{"a", "b", "c"}, "c", true},
		{[]string{"a", "b", "c"}, "d", false},
		{[]string{"a", "b", "c"}[:2], "c", false}, // it stands in the list's spare room
		{[]string{"c", "b", "b"}, "b", true},
		{[]string{"c", "b", "a"}, "a", true},
		{[]string{"A", ""}, "", true},
		{[]string{"A", ""}, "a", false},
		{names(100), "n0000099", true},
	} {
		if is := policy.Drains(api.Goal{Drain: x.drain, Tries: -1}, x.name); is != x.want {
			t.Errorf("Drains(%v, %q): %v", x.drain, x.name, is)
		}
	}
}
