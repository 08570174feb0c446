package snap_test

import (
	"fmt"
	"math/rand"
	"reflect"
	"slices"
	"strings"
	"testing"

	"drayage/api"
	"drayage/label"
	"drayage/scan"
	"drayage/snap"
	"drayage/vec"
)

// checkParse asks that a text says a cluster.
func checkParse(t *testing.T, text string, want api.Snap) {
	t.Helper()
	if s, line, col, e := snap.Parse(text); e != api.OK || line != 0 || col != 0 || !same(s, want) {
		t.Errorf("Parse(%q): %v, %d, %d, %d, not %v", text, s, line, col, e, want)
	}
}

// checkWrong asks that a text is wrong there, and that nothing else is answered.
func checkWrong(t *testing.T, text string, line, col int, e api.Errno) {
	t.Helper()
	if s, l, c, got := snap.Parse(text); l != line || c != col || got != e || !reflect.DeepEqual(s, api.Snap{}) {
		t.Errorf("Parse(%q): %v, %d, %d, %d, not %d, %d, %d", text, s, l, c, got, line, col, e)
	}
}

const fullText = `node n1 cap "cpu=4,mem=1Gi,slots=3" labels "disk=ssd,zone=x" taints "gpu=1" cordon
node n2 cap "cpu=1m,mem=2,disk=3,slots=4,extra=5" lost
node n3
pod a owner web on n1 req "cpu=500m,mem=1" labels "app=web" where "disk=ssd,zone!=y,zone,!old" bears "gpu=*,gpu=1" with zone "app=db" apart host ""
pod b owner web
pod c on n3
owner db
owner web min 1 spread zone 2 single
`

// TestParse (P5.2): the text of a cluster, and what else says the same.
func TestParse(t *testing.T) {
	checkParse(t, fullText, full())
	checkParse(t, strings.TrimSuffix(fullText, "\n"), full())
	checkParse(t, "# of one\n\n"+strings.ReplaceAll(fullText, "\n", " # \"\n\t\n"), full())
	checkParse(t, " "+strings.ReplaceAll(fullText, " ", "\t \t"), full())
	checkParse(t, strings.ReplaceAll(fullText, "pod b owner web", `pod b owner web req "" labels "" where "" bears ""`), full())
	checkParse(t, strings.ReplaceAll(fullText, "node n3", `node n3 cap "" labels "" taints ""`), full())
	checkParse(t, strings.ReplaceAll(fullText, "owner db", `owner db min 0`), full())
	for _, text := range []string{"", "\n", " \t\n\n", "#", "# node a\n#\n"} {
		checkParse(t, text, api.Snap{})
	}
}

// TestParseLinesInAnyOrder (P5.2): all orders of a few lines, and some of many.
func TestParseLinesInAnyOrder(t *testing.T) {
	lines := strings.SplitAfter(fullText, "\n")
	lines = lines[:len(lines)-1]
	r := rand.New(rand.NewSource(1))
	for range 300 {
		r.Shuffle(len(lines), func(i, j int) { lines[i], lines[j] = lines[j], lines[i] })
		checkParse(t, strings.Join(lines, ""), full())
	}
	checkParse(t, "node b lost\nowner o\npod b\nnode a\npod a owner o on a", api.Snap{
		Nodes:  []api.Node{{Name: "a"}, {Name: "b", Lost: true}},
		Pods:   []api.Pod{{Name: "a", Owner: "o", On: "a"}, {Name: "b"}},
		Owners: []api.Owner{{Name: "o"}},
	})
}

// TestParseWordsOfALine (P5.2): words that are names where a name stands.
func TestParseWordsOfALine(t *testing.T) {
	checkParse(t, "node node cap \"\" cordon\nnode lost lost\nnode cap\npod on on node\npod pod owner owner with with \"with\" apart on \"\"\nowner owner spread spread 1\nowner min min 2 single", api.Snap{
		Nodes:  []api.Node{{Name: "cap"}, {Name: "lost", Lost: true}, {Name: "node", Cordon: true}},
		Pods:   []api.Pod{{Name: "on", On: "node"}, {Name: "pod", Owner: "owner", With: api.Near{Topo: "with", Terms: []api.Term{{Kind: api.TermHas, Key: "with"}}}, Apart: api.Near{Topo: "on"}}},
		Owners: []api.Owner{{Name: "min", Min: 2, Single: true}, {Name: "owner", Topo: "spread", Skew: 1}},
	})
}

// TestParseScan (P5.2): scan's errors, there, ahead of all others; what scan lets stand is read.
func TestParseScan(t *testing.T) {
	for text, want := range map[string]struct {
		line, col int
		e         api.Errno
	}{
		"node a\nnode A":                  {2, 6, api.ErrForm},
		"x\nnode \"a":                     {2, 8, api.ErrTrunc},
		"node\nnode a\npod é":             {3, 5, api.ErrForm},
		"node a #\xff":                    {1, 9, api.ErrForm},
		"node a\rnode b":                  {1, 7, api.ErrForm},
		"node a=b":                        {1, 7, api.ErrForm},
		"node a cap\"\"":                  {1, 11, api.ErrForm},
		strings.Repeat(" ", 65537):        {0, 0, api.ErrLimit},
		"x" + strings.Repeat("\n", 65535): {1, 1, api.ErrForm},
		"x" + strings.Repeat("\n", 65536): {0, 0, api.ErrLimit},
		"node a cap \"cpu=1\"x":           {1, 19, api.ErrForm},
	} {
		checkWrong(t, text, want.line, want.col, want.e)
	}
	checkParse(t, strings.Repeat("#\n", 32765)+"node a", api.Snap{Nodes: []api.Node{{Name: "a"}}})
	checkParse(t, "node a cap\t\"\"lost#\xc3\xa9", api.Snap{Nodes: []api.Node{{Name: "a", Lost: true}}})
}

// TestParseWrong (P5.2): wrong words, lines that end too early, and the first one of several faults.
func TestParseWrong(t *testing.T) {
	for text, want := range map[string]struct {
		line, col int
		e         api.Errno
	}{
		"nodes a":                              {1, 1, api.ErrForm},
		"\"node\" a":                           {1, 1, api.ErrForm},
		"1 a":                                  {1, 1, api.ErrForm},
		"{":                                    {1, 1, api.ErrForm},
		"\n\n  x":                              {3, 3, api.ErrForm},
		"node":                                 {1, 1, api.ErrTrunc},
		"pod":                                  {1, 1, api.ErrTrunc},
		"owner # a":                            {1, 1, api.ErrTrunc},
		"owner\na":                             {1, 1, api.ErrTrunc},
		"node \"a\"":                           {1, 6, api.ErrForm},
		"node 1":                               {1, 6, api.ErrForm},
		"node *":                               {1, 6, api.ErrForm},
		"node a b":                             {1, 8, api.ErrForm},
		"node a \"\"":                          {1, 8, api.ErrForm},
		"node a lost cordon":                   {1, 13, api.ErrForm},
		"node a lost lost":                     {1, 13, api.ErrForm},
		"node a \"lost\"":                      {1, 8, api.ErrForm},
		"node a cap \"\" cap \"\"":             {1, 15, api.ErrForm},
		"node a labels \"\" cap \"\"":          {1, 18, api.ErrForm},
		"node a taints":                        {1, 8, api.ErrTrunc},
		"node a taints cordon":                 {1, 15, api.ErrForm},
		"node " + letters16:                    {1, 6, api.ErrForm},
		"node " + letters16 + " cap":           {1, 6, api.ErrForm},
		"pod a on " + letters16:                {1, 10, api.ErrForm},
		"pod a owner " + letters16:             {1, 13, api.ErrForm},
		"pod a with " + letters16 + " \"\"":    {1, 12, api.ErrForm},
		"owner a spread " + letters16 + " 1":   {1, 16, api.ErrForm},
		"pod a on":                             {1, 7, api.ErrTrunc},
		"pod a owner # b":                      {1, 7, api.ErrTrunc},
		"pod a on 1":                           {1, 10, api.ErrForm},
		"pod a on a owner a":                   {1, 12, api.ErrForm},
		"pod a with":                           {1, 7, api.ErrTrunc},
		"pod a with zone":                      {1, 12, api.ErrTrunc},
		"pod a with zone apart":                {1, 17, api.ErrForm},
		"pod a with \"\"":                      {1, 12, api.ErrForm},
		"pod a apart zone \"\" with zone \"\"": {1, 21, api.ErrForm},
		"pod a node":                           {1, 7, api.ErrForm},
		"owner a min":                          {1, 9, api.ErrTrunc},
		"owner a min x":                        {1, 13, api.ErrForm},
		"owner a min \"1\"":                    {1, 13, api.ErrForm},
		"owner a spread":                       {1, 9, api.ErrTrunc},
		"owner a spread zone":                  {1, 16, api.ErrTrunc},
		"owner a spread 1":                     {1, 16, api.ErrForm},
		"owner a spread zone zone":             {1, 21, api.ErrForm},
		"owner a single min 1":                 {1, 16, api.ErrForm},
		"owner a single single":                {1, 16, api.ErrForm},

		"node a cap \"cpu=\"":                {1, 12, api.ErrTrunc}, // at the string, whatever place in it
		"node a cap \"cpu=1,cpu=1\"":         {1, 12, api.ErrForm},
		"node a cap \"cpu=0\"":               {1, 12, api.ErrForm},
		"node a cap \"mem=1025Gi\"":          {1, 12, api.ErrOver},
		"node a cap \"mem=1025Gi\" x":        {1, 12, api.ErrOver},
		"node a cap \"a=1\"":                 {1, 12, api.ErrForm},
		"node a cap \"\\n\"":                 {1, 12, api.ErrForm},
		"node a labels \"a\"":                {1, 15, api.ErrTrunc},
		"node a labels \"a=*\"":              {1, 15, api.ErrForm},
		"node a taints \"a=*\"":              {1, 15, api.ErrForm},
		"node a taints \"b=1,a=1\"":          {1, 15, api.ErrForm},
		"pod a req \"cpu\"":                  {1, 11, api.ErrTrunc},
		"pod a labels \"!a\"":                {1, 14, api.ErrForm},
		"pod a labels \"é=1\" where":         {1, 14, api.ErrForm},
		"pod a where \"a=\"":                 {1, 13, api.ErrTrunc},
		"pod a where \"a,b,c,d,e,f,g\"":      {1, 13, api.ErrLimit},
		"pod a where \"a=*\"":                {1, 13, api.ErrForm},
		"pod a bears \"a\"":                  {1, 13, api.ErrTrunc},
		"pod a bears \"a=*,a=*\"":            {1, 13, api.ErrForm},
		"pod a with zone \"a,\"":             {1, 17, api.ErrTrunc},
		"pod a with z \"\" apart zone \"=\"": {1, 28, api.ErrForm},
		"node a labels \"é=1\" x":            {1, 15, api.ErrForm},
		"pod é":                              {1, 5, api.ErrForm},

		"node a\nnode b x\nnode c y":    {2, 8, api.ErrForm},
		"node a\n\n# x\n\tpod\nnode":    {4, 2, api.ErrTrunc},
		"pod p on x\nnode a\nnode b c":  {3, 8, api.ErrForm}, // ahead of what is wrong with the cluster
		"node a cap \"x\" lost lost":    {1, 12, api.ErrForm},
		"node a cap \"\" \"x\"":         {1, 15, api.ErrForm},
		"pod p req \"x=\" on\n":         {1, 11, api.ErrForm},
		"owner a min 01 spread":         {1, 13, api.ErrForm},
		"node a # \"\nnode b cap # \"1": {2, 8, api.ErrTrunc},
	} {
		checkWrong(t, text, want.line, want.col, want.e)
	}
}

// TestParseNumbers (P5.2): digits, without a 0 ahead, nine at most.
func TestParseNumbers(t *testing.T) {
	for text, want := range map[string]int{"0": 0, "1": 1, "9": 9, "10": 10, "24": 24} {
		checkParse(t, "owner a min "+text, api.Snap{Owners: []api.Owner{{Name: "a", Min: want}}})
		if want > 0 {
			checkParse(t, "owner a spread z "+text, api.Snap{Owners: []api.Owner{{Name: "a", Topo: "z", Skew: want}}})
		}
	}
	for _, text := range []string{"25", "100", "999999999"} {
		checkWrong(t, "owner a min "+text, 0, 0, api.ErrSnap)
		checkWrong(t, "owner a spread z "+text, 0, 0, api.ErrSnap)
	}
	checkWrong(t, "owner a spread z 0", 0, 0, api.ErrSnap)
	for _, text := range []string{"00", "01", "024", "000000001", "0000000001", "1000000000", "1000000000000000000000000", "1k", "1x", "1.0", "0.5", "1.", "1%", "1e1", "0x1", "1Ki", strings.Repeat("1", 5000)} {
		checkWrong(t, "owner a min "+text, 1, 13, api.ErrForm)
		checkWrong(t, "owner a spread z "+text+" single", 1, 18, api.ErrForm)
	}
}

// TestParseLimits (P5.2): one node, pod or owner too many, at the line's first word; only a line that can be read is one.
func TestParseLimits(t *testing.T) {
	for _, x := range []struct {
		word string
		most int
	}{{"node", 8}, {"pod", 24}, {"owner", 8}} {
		var lines string
		for i := range x.most {
			lines += fmt.Sprintf("%s a%02d\n", x.word, i)
		}
		if s, _, _, e := snap.Parse(lines); e != api.OK || len(s.Nodes)+len(s.Pods)+len(s.Owners) != x.most {
			t.Errorf("%d lines %s: %v, %d", x.most, x.word, s, e)
		}
		over := x.most + 1
		checkWrong(t, lines+x.word+" z", over, 1, api.ErrLimit)
		checkWrong(t, lines+x.word+" a00", over, 1, api.ErrLimit)
		checkWrong(t, lines+"\n \t "+x.word+" z\nx", over+1, 4, api.ErrLimit)
		checkWrong(t, lines+x.word, over, 1, api.ErrTrunc)
		checkWrong(t, lines+x.word+" z z", over, len(x.word)+4, api.ErrForm)
		checkWrong(t, lines+x.word+" 1", over, len(x.word)+2, api.ErrForm)
	}
	full, _ := snap.Print(some(8, 24, 8))
	checkParse(t, full, some(8, 24, 8))
	for i, word := range []string{"owner", "pod", "node"} {
		checkWrong(t, full+word+" z\nnode y\npod y", 41, 1, api.ErrLimit)
		if i == 0 {
			checkWrong(t, full+"\n# z\n"+word+" z", 43, 1, api.ErrLimit)
		}
	}
}

// TestParseCheck (P5.2, W1): Check's errors, at 0, 0, of texts that can be read.
func TestParseCheck(t *testing.T) {
	for text, e := range map[string]api.Errno{
		"node a\nnode a":                                                 api.ErrSnap,
		"pod a\nnode a\npod b\npod a":                                    api.ErrSnap,
		"owner a\nowner a":                                               api.ErrSnap,
		"pod a owner b":                                                  api.ErrSnap,
		"pod a owner b\nnode b":                                          api.ErrSnap,
		"pod a on b\nowner b":                                            api.ErrSnap,
		"pod a on b\nnode b lost":                                        api.ErrSnap,
		"node a cap \"mem=1024Gi\"\nnode b cap \"mem=1\"":                api.ErrOver,
		"pod a req \"extra=1024Gi\"\npod b req \"extra=1\"":              api.ErrOver,
		"pod a req \"cpu=1099511627m\"\npod b req \"cpu=1099511627\"":    api.ErrOver,
		"node a cap \"mem=1024Gi\"\nnode b cap \"mem=1\"\npod p on x":    api.ErrSnap,
		"node a cap \"mem=1024Gi\"\nnode b cap \"disk=1\"\npod p on a":   api.OK,
		"node a cap \"mem=1024Gi\"\npod p on a req \"mem=1024Gi\"":       api.OK,
		"node a cap \"mem=512Gi\"\nnode b cap \"mem=512Gi\" cordon lost": api.OK,
	} {
		if e == api.OK {
			if _, line, col, got := snap.Parse(text); got != e {
				t.Errorf("Parse(%q): %d, %d, %d", text, line, col, got)
			}
			continue
		}
		checkWrong(t, text, 0, 0, e)
	}
}

// The chapter's table: which words a line has.
const (
	nodeForm  = "node NAME [cap ROW] [labels LABELS] [taints LABELS] [cordon] [lost]"
	podForm   = "pod NAME [owner NAME] [on NAME] [req ROW] [labels LABELS] [where TERMS] [bears BORNE] [with NAME TERMS] [apart NAME TERMS]"
	ownerForm = "owner NAME [min N] [spread NAME N] [single]"
)

// rows are all rows of words that a line of a form may have.
func rows(form string) [][]string {
	all := [][]string{nil}
	for i, part := range strings.FieldsFunc(form, func(c rune) bool { return c == '[' || c == ']' }) {
		for _, row := range all {
			if more := strings.Fields(part); i == 0 {
				all[0] = more
			} else if len(more) > 0 {
				all = append(all, slices.Concat(row, more))
			}
		}
	}
	return all
}

// wordError is what is wrong with a word where one of the table should stand.
func wordError(want string, w api.Word) api.Errno {
	var e api.Errno
	read := map[string]func(string) api.Errno{
		"ROW":    func(s string) api.Errno { _, _, e := vec.Parse(s); return e },
		"LABELS": func(s string) api.Errno { _, _, e := label.Labels(s); return e },
		"BORNE":  func(s string) api.Errno { _, _, e := label.Borne(s); return e },
		"TERMS":  func(s string) api.Errno { _, _, e := label.Terms(s); return e },
	}[want]
	is := w.Kind == api.WordName && w.Text == want
	switch {
	case read != nil:
		is = w.Kind == api.WordString
		e = read(w.Text)
	case want == "NAME":
		is = w.Kind == api.WordName && len(w.Text) <= 15
	case want == "N":
		is = w.Kind == api.WordNumber && len(w.Text) <= 9 && strings.Trim(w.Text, "0123456789") == "" && (w.Text == "0" || w.Text[0] != '0')
	}
	if !is {
		return api.ErrForm
	}
	return e
}

// wantLine is what is wrong with a line, and at which word, by all rows of words that may be.
func wantLine(may [][]string, words []api.Word) (int, api.Errno) {
	for i, w := range words {
		e := api.ErrForm
		var left [][]string
		known := map[string]api.Errno{}
		for _, row := range may {
			if i == len(row) {
				continue
			}
			got, is := known[row[i]]
			if !is {
				got = wordError(row[i], w)
				known[row[i]] = got
			}
			if got == api.OK {
				left = append(left, row)
			}
			if got != api.ErrForm {
				e = got
			}
		}
		if len(left) == 0 {
			return i, e
		}
		may = left
	}
	for _, row := range may {
		if len(row) == len(words) {
			return 0, api.OK
		}
	}
	return len(words) - 1, api.ErrTrunc
}

// checkLine holds what is said of a text of one line against the chapter's table. Where that can be read, it is printed as it says.
func checkLine(t *testing.T, may [][]string, text string) {
	words, _, _, e := scan.Words(text)
	if e != api.OK {
		t.Fatalf("%q: %d", text, e)
	}
	s, line, col, e := snap.Parse(text)
	if i, want := wantLine(may, words); want != api.OK {
		if e != want || line != 1 || col != words[i].Col {
			t.Errorf("Parse(%q): %d, %d, %d, not %d, %d, %d", text, line, col, e, 1, words[i].Col, want)
		}
		return
	}
	if line != 0 || col != 0 || e != api.OK && e != api.ErrSnap {
		t.Errorf("Parse(%q): %d, %d, %d, though it can be read", text, line, col, e)
	}
	if e == api.OK {
		checkPrint(t, s, saying(text), api.OK)
	}
}

// saying is a line without the parts that say nothing.
func saying(text string) string {
	l := strings.Fields(text)
	said, l := l[:2:2], l[2:]
	for len(l) > 0 {
		n := 2
		switch l[0] {
		case "cordon", "lost", "single":
			n = 1
		case "with", "apart", "spread":
			n = 3
		}
		if n != 2 || l[1] != `""` && l[1] != "0" {
			said = append(said, l[:n]...)
		}
		l = l[n:]
	}
	return strings.Join(said, " ") + "\n"
}

// eachLine goes through all lines of a beginning, and at most that many of these words.
func eachLine(begin string, most int, words []string, f func(text string)) {
	f(begin)
	if most == 0 {
		return
	}
	for _, w := range words {
		eachLine(begin+" "+w, most-1, words, f)
	}
}

// TestParseAllLines (P5.2, P5.7): all lines of a few words, held against the chapter's table.
func TestParseAllLines(t *testing.T) {
	may := slices.Concat(rows(nodeForm), rows(podForm), rows(ownerForm))
	if len(may) != 32+256+8 {
		t.Fatalf("%d rows of words", len(may))
	}
	check := func(text string) { checkLine(t, may, text) }
	node := []string{"cap", "labels", "taints", "cordon", "lost", `""`, `"cpu=1"`, `"a=1"`, `"a"`, "b", "1"}
	pod := []string{"owner", "on", "req", "labels", "where", "bears", "with", "apart", `""`, `"cpu=1"`, `"a=1"`, `"a=*"`, `"!a"`, "1"}
	owner := []string{"min", "spread", "single", "z", letters15, letters16, "0", "1", "01", "2x", "999999999", "1000000000", `""`, ";"}
	eachLine("node a", 4, node, check)
	eachLine("pod a", 4, pod, check)
	eachLine("owner a", 4, owner, check)
	for _, w := range []string{"node", "pod", "owner", "a", letters15, letters16, `"node"`, `""`, "1", "*", "}"} {
		eachLine(w, 2, []string{"node", "pod", "owner", "cordon", "a", letters15, letters16, `""`, "1", ":"}, check)
	}
}

// TestParseLongLines (P5.2, P5.7): all rows of words of the table, with all that stands in them, and each of them cut short, or with one word more, or another one.
func TestParseLongLines(t *testing.T) {
	may := slices.Concat(rows(nodeForm), rows(podForm), rows(ownerForm))
	of := map[string]string{"NAME": "a", "ROW": `"cpu=1,mem=2"`, "LABELS": `"a=1,b=2"`, "BORNE": `"a=*"`, "TERMS": `"a,!b"`, "N": "2"}
	for _, row := range may {
		words := slices.Clone(row)
		for i, w := range words {
			if said, is := of[w]; is {
				words[i] = said
			}
		}
		for i := range words {
			begin, end := strings.Join(words[:i+1], " "), strings.Join(words[i+1:], " ")
			checkLine(t, may, begin)
			for _, w := range []string{"a", "cap", "lost", "on", "labels", "apart", "single", `""`, `"a,b"`, "1", "*"} {
				checkLine(t, may, strings.TrimSpace(begin+" "+w+" "+end))
				checkLine(t, may, strings.TrimSpace(strings.Join(words[:i], " ")+" "+w+" "+end))
			}
		}
	}
}
