package snap

import (
	"cmp"
	"slices"
	"strconv"

	"drayage/api"
	"drayage/label"
	"drayage/scan"
	"drayage/vec"
)

// maxDigits is how many a number has at most.
const maxDigits = 9

// fault is what is wrong with a text, and where. A reader that can't go on panics with one.
type fault struct {
	line, col int
	e         api.Errno
}

// fail tells what is wrong, at a word.
func fail(w api.Word, e api.Errno) {
	panic(fault{w.Line, w.Col, e})
}

// Parse reads a cluster. Beside an error stand the line and the column where the text is wrong, or 0, 0, if only the cluster is.
func Parse(text string) (s api.Snap, line, col int, e api.Errno) {
	words, line, col, e := scan.Words(text)
	if e != api.OK {
		return api.Snap{}, line, col, e
	}
	s, wrong := readLines(words)
	if wrong.e != api.OK {
		return api.Snap{}, wrong.line, wrong.col, wrong.e
	}
	sortByNames(s)
	if e := Check(s); e != api.OK {
		return api.Snap{}, 0, 0, e
	}
	return s, 0, 0, api.OK
}

// sortByNames brings a cluster, whose lines may stand in any order, into its own.
func sortByNames(s api.Snap) {
	slices.SortStableFunc(s.Nodes, func(a, b api.Node) int { return cmp.Compare(a.Name, b.Name) })
	slices.SortStableFunc(s.Pods, func(a, b api.Pod) int { return cmp.Compare(a.Name, b.Name) })
	slices.SortStableFunc(s.Owners, func(a, b api.Owner) int { return cmp.Compare(a.Name, b.Name) })
}

// readLines reads lines, up to the first one that is wrong.
func readLines(words []api.Word) (s api.Snap, wrong fault) {
	defer func() {
		caught := recover()
		if caught == nil {
			return
		}
		f, is := caught.(fault)
		if !is { // not the text is wrong, but the program
			panic(caught)
		}
		wrong = f
	}()
	for len(words) > 0 {
		n := scan.Line(words, 0)
		readLine(&s, words[:n])
		words = words[n:]
	}
	return s, fault{}
}

// readLine adds what a line says to a cluster.
func readLine(s *api.Snap, words []api.Word) {
	r := &reader{words: words}
	switch first := r.take(api.WordName); first.Text {
	case "node":
		s.Nodes = addTo(s.Nodes, api.MaxNodes, r, readNode)
	case "pod":
		s.Pods = addTo(s.Pods, api.MaxPods, r, readPod)
	case "owner":
		s.Owners = addTo(s.Owners, api.MaxOwners, r, readOwner)
	default:
		fail(first, api.ErrForm)
	}
}

// addTo reads what is left of a line, and adds what it says. Only a line that can be read is one too many.
func addTo[T any](l []T, most int, r *reader, read func(r *reader) T) []T {
	x := read(r)
	if r.at < len(r.words) {
		fail(r.words[r.at], api.ErrForm)
	}
	if len(l) == most {
		fail(r.words[0], api.ErrLimit)
	}
	return append(l, x)
}

func readNode(r *reader) api.Node {
	n := api.Node{Name: r.name()}
	if r.goesOn("cap") {
		n.Cap = readText(r, vec.Parse)
	}
	if r.goesOn("labels") {
		n.Labels = readText(r, label.Labels)
	}
	if r.goesOn("taints") {
		n.Taints = readText(r, label.Labels)
	}
	n.Cordon = r.goesOn("cordon")
	n.Lost = r.goesOn("lost")
	return n
}

func readPod(r *reader) api.Pod {
	p := api.Pod{Name: r.name()}
	if r.goesOn("owner") {
		p.Owner = r.name()
	}
	if r.goesOn("on") {
		p.On = r.name()
	}
	if r.goesOn("req") {
		p.Req = readText(r, vec.Parse)
	}
	if r.goesOn("labels") {
		p.Labels = readText(r, label.Labels)
	}
	if r.goesOn("where") {
		p.Where = readText(r, label.Terms)
	}
	if r.goesOn("bears") {
		p.Bears = readText(r, label.Borne)
	}
	if r.goesOn("with") {
		p.With = readNear(r)
	}
	if r.goesOn("apart") {
		p.Apart = readNear(r)
	}
	return p
}

func readNear(r *reader) api.Near {
	topo := r.name()
	return api.Near{Topo: topo, Terms: readText(r, label.Terms)}
}

func readOwner(r *reader) api.Owner {
	o := api.Owner{Name: r.name()}
	if r.goesOn("min") {
		o.Min = r.number()
	}
	if r.goesOn("spread") {
		o.Topo = r.name()
		o.Skew = r.number()
	}
	o.Single = r.goesOn("single")
	return o
}

// reader is a line's words, one at least, and the place of the next one.
type reader struct {
	words []api.Word
	at    int
}

// goesOn tells whether the next word is this one, and goes on behind it, if it is.
func (r *reader) goesOn(word string) bool {
	if r.at == len(r.words) || r.words[r.at].Kind != api.WordName || r.words[r.at].Text != word {
		return false
	}
	r.at++
	return true
}

// take takes the next word, which must be of a kind.
func (r *reader) take(kind int) api.Word {
	if r.at == len(r.words) {
		fail(r.words[r.at-1], api.ErrTrunc)
	}
	w := r.words[r.at]
	if w.Kind != kind {
		fail(w, api.ErrForm)
	}
	r.at++
	return w
}

func (r *reader) name() string {
	w := r.take(api.WordName)
	if !label.Name(w.Text) { // scan's names may be longer
		fail(w, api.ErrForm)
	}
	return w.Text
}

func (r *reader) number() int {
	w := r.take(api.WordNumber)
	n, err := strconv.Atoi(w.Text)
	// One with a 0 ahead is written otherwise.
	if err != nil || len(w.Text) > maxDigits || strconv.Itoa(n) != w.Text {
		fail(w, api.ErrForm)
	}
	return n
}

// readText takes a string, and reads it.
func readText[T any](r *reader, read func(text string) (T, int, api.Errno)) T {
	w := r.take(api.WordString)
	x, _, e := read(w.Text)
	if e != api.OK {
		fail(w, e)
	}
	return x
}
