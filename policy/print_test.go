package policy_test

import (
	"strconv"
	"strings"
	"testing"

	"drayage/api"
	"drayage/policy"
	"drayage/quant"
)

// TestPrint (P6.3): all that can be said, and nothing; of a policy that may not be, Check's error.
func TestPrint(t *testing.T) {
	checkBothWays(t, full(), fullText)
	checkBothWays(t, api.Goal{}, "")
	checkPrint(t, api.Goal{Drain: []string{}}, "", api.OK)
	wrong := full()
	wrong.Tries = 9
	checkPrint(t, wrong, "", api.ErrGoal)
	checkPrint(t, api.Goal{Low: [2]int{1, 0}}, "", api.ErrGoal)
	checkPrint(t, api.Goal{Drain: []string{"b", "a"}}, "", api.ErrGoal)
}

// TestPrintParts (P6.3): each line by itself, left out only where all of it says nothing.
func TestPrintParts(t *testing.T) {
	all := [2]int{1000, 1000}
	for want, g := range map[string]api.Goal{
		"low 1% 0%\nhigh 100% 100%\n":               {Low: [2]int{10, 0}, High: all},
		"low 0% 0.1%\nhigh 100% 100%\n":             {Low: [2]int{0, 1}, High: all},
		"low 99.9% 50%\nhigh 100% 100%\n":           {Low: [2]int{999, 500}, High: all},
		"high 0% 0.5%\n":                            {High: [2]int{0, 5}},
		"high 12.3% 0%\n":                           {High: [2]int{123, 0}},
		"on doubles\n":                              {On: api.OnDouble},
		"on with\n":                                 {On: api.OnWith},
		"on taints\n":                               {On: api.OnTaint},
		"on spread\n":                               {On: api.OnSpread},
		"on empty\n":                                {On: api.OnEmpty},
		"on doubles empty\n":                        {On: api.OnDouble | api.OnEmpty},
		"on doubles with taints spread empty\n":     {On: api.OnAll},
		"drain on\n":                                {Drain: []string{"on"}},
		"drain a b c d e f g h\n":                   {Drain: []string{"a", "b", "c", "d", "e", "f", "g", "h"}},
		"drain " + letters15 + "\n":                 {Drain: []string{letters15}},
		"moves 1\n":                                 {MaxMoves: 1},
		"moves 48\n":                                {MaxMoves: 48},
		"tries 8\n":                                 {Tries: 8},
		"rollback\n":                                {Rollback: true},
		"on with\nrollback\n":                       {On: api.OnWith, Rollback: true},
		"high 100% 100%\nmoves 10\n":                {High: all, MaxMoves: 10},
		"drain a\ntries 1\n":                        {Drain: []string{"a"}, Tries: 1},
		"low 100% 100%\nhigh 100% 100%\nrollback\n": {Low: all, High: all, Rollback: true},
	} {
		checkBothWays(t, g, want)
	}
}

// TestPrintNumbers (P6.3, P6.5): each number that may be, each share, each set of bits.
func TestPrintNumbers(t *testing.T) {
	for n := 1; n <= 48; n++ {
		checkBothWays(t, api.Goal{MaxMoves: n}, "moves "+strconv.Itoa(n)+"\n")
	}
	for n := 1; n <= 8; n++ {
		checkBothWays(t, api.Goal{Tries: n}, "tries "+strconv.Itoa(n)+"\n")
	}
	for n := 1; n <= 1000; n++ {
		text, _ := quant.PrintPercent(n)
		checkBothWays(t, api.Goal{High: [2]int{n, 0}}, "high "+text+" 0%\n")
		checkBothWays(t, api.Goal{Low: [2]int{0, n}, High: [2]int{0, 1000}}, "low 0% "+text+"\nhigh 0% 100%\n")
	}
	for on := 1; on <= api.OnAll; on++ {
		text := "on"
		for i, word := range []string{"doubles", "with", "taints", "spread", "empty"} {
			if on>>i&1 == 1 {
				text += " " + word
			}
		}
		checkBothWays(t, api.Goal{On: on}, text+"\n")
	}
}

// TestPrintedIsParsed (P6.5): what was printed is parsed as it was, also with comments, other blanks and empty lines, or without the last line's end.
func TestPrintedIsParsed(t *testing.T) {
	eachPolicy(t, 5000, func(g api.Goal) {
		text, e := policy.Print(g)
		if e != api.OK {
			t.Fatalf("Print(%v): %d", g, e)
		}
		checkParse(t, text, g)
		checkParse(t, strings.TrimSuffix(text, "\n"), g)
		var other string
		for line := range strings.Lines(text) {
			other += "\n\t" + strings.ReplaceAll(strings.TrimSuffix(line, "\n"), " ", " \t") + " # x \" é\n"
		}
		checkParse(t, other, g)
	})
}

// TestPrintedForm (P6.3): words with one blank between them, each line with its end; the lines in order, none twice.
func TestPrintedForm(t *testing.T) {
	order := []string{"low", "high", "on", "drain", "moves", "tries", "rollback"}
	eachPolicy(t, 2000, func(g api.Goal) {
		text, _ := policy.Print(g)
		if strings.Contains(text, "  ") || strings.Contains(text, " \n") || strings.Contains(text, "\n ") || strings.Contains(text, "\n\n") || text != "" && !strings.HasSuffix(text, "\n") {
			t.Fatalf("%q has other blanks", text)
		}
		left := order
		for line := range strings.Lines(text) {
			word := strings.Fields(line)[0]
			for len(left) > 0 && left[0] != word {
				left = left[1:]
			}
			if len(left) == 0 {
				t.Fatalf("%q has its lines in another order", text)
			}
			left = left[1:]
		}
	})
}
