package policy

import (
	"strconv"
	"strings"

	"drayage/api"
	"drayage/quant"
)

// said is what a line has behind its first word, and whether it says anything.
type said struct {
	is    bool
	words []string
}

// Print writes a policy.
func Print(g api.Goal) (string, api.Errno) {
	if e := Check(g); e != api.OK {
		return "", e
	}
	lines := [len(keys)]said{
		sharesSaid(g.Low),
		sharesSaid(g.High),
		looksSaid(g.On),
		{len(g.Drain) > 0, g.Drain},
		numberSaid(g.MaxMoves),
		numberSaid(g.Tries),
		{g.Rollback, nil},
	}
	var b strings.Builder
	for i, key := range keys {
		if !lines[i].is {
			continue
		}
		b.WriteString(key)
		for _, word := range lines[i].words {
			b.WriteString(" " + word)
		}
		b.WriteByte('\n')
	}
	return b.String(), api.OK
}

func sharesSaid(shares [2]int) said {
	var s said
	for _, n := range shares {
		text, _ := quant.PrintPercent(n) // the policy was checked
		s.words = append(s.words, text)
		s.is = s.is || n != 0
	}
	return s
}

func looksSaid(on int) said {
	bitOf := bits()
	var words []string
	for _, word := range looks {
		if on&bitOf[word] != 0 {
			words = append(words, word)
		}
	}
	return said{on != 0, words}
}

func numberSaid(n int) said {
	return said{n != 0, []string{strconv.Itoa(n)}}
}
