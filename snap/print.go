package snap

import (
	"strconv"
	"strings"

	"drayage/api"
	"drayage/label"
	"drayage/scan"
	"drayage/vec"
)

// Print writes a cluster.
func Print(s api.Snap) (string, api.Errno) {
	if e := Check(s); e != api.OK {
		return "", e
	}
	var b strings.Builder
	for _, n := range s.Nodes {
		nodeLine(n).writeTo(&b)
	}
	for _, p := range s.Pods {
		podLine(p).writeTo(&b)
	}
	for _, o := range s.Owners {
		ownerLine(o).writeTo(&b)
	}
	return b.String(), api.OK
}

// lineWords are the words of a line. What their methods add is left out where it would say nothing.
type lineWords []string

func nodeLine(n api.Node) lineWords {
	return lineWords{"node", n.Name}.
		text("cap", rowText(n.Cap)).
		text("labels", label.Print(n.Labels)).
		text("taints", label.Print(n.Taints)).
		word("cordon", n.Cordon).
		word("lost", n.Lost)
}

func podLine(p api.Pod) lineWords {
	return lineWords{"pod", p.Name}.
		name("owner", p.Owner).
		name("on", p.On).
		text("req", rowText(p.Req)).
		text("labels", label.Print(p.Labels)).
		text("where", label.PrintTerms(p.Where)).
		text("bears", label.Print(p.Bears)).
		near("with", p.With).
		near("apart", p.Apart)
}

func ownerLine(o api.Owner) lineWords {
	l := lineWords{"owner", o.Name}
	if o.Min != 0 {
		l = append(l, "min", strconv.Itoa(o.Min))
	}
	if o.Topo != "" {
		l = append(l, "spread", o.Topo, strconv.Itoa(o.Skew))
	}
	return l.word("single", o.Single)
}

func (l lineWords) word(key string, is bool) lineWords {
	if !is {
		return l
	}
	return append(l, key)
}

func (l lineWords) name(key, name string) lineWords {
	if name == "" {
		return l
	}
	return append(l, key, name)
}

func (l lineWords) text(key, text string) lineWords {
	if text == "" {
		return l
	}
	return append(l, key, quoted(text))
}

// near has its string even where there are no terms: the name alone says something.
func (l lineWords) near(key string, n api.Near) lineWords {
	if n.Topo == "" {
		return l
	}
	return append(l, key, n.Topo, quoted(label.PrintTerms(n.Terms)))
}

func (l lineWords) writeTo(b *strings.Builder) {
	b.WriteString(strings.Join(l, " "))
	b.WriteByte('\n')
}

// rowText leaves the error out: rows were checked.
func rowText(v api.Vec) string {
	text, _ := vec.Print(v)
	return text
}

// quoted leaves the error out: texts of what was checked are of runes that may stand in a string.
func quoted(text string) string {
	q, _ := scan.Quote(text)
	return q
}
