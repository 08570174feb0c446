package policy_test

import (
	"math/rand"
	"slices"
	"strconv"
	"strings"
	"testing"

	"drayage/api"
	"drayage/policy"
	"drayage/quant"
	"drayage/scan"
)

// TestParse (P6.2): the text of a policy, and what else says the same.
func TestParse(t *testing.T) {
	checkParse(t, fullText, full())
	checkParse(t, strings.TrimSuffix(fullText, "\n"), full())
	checkParse(t, "# of one\n\n"+strings.ReplaceAll(fullText, "\n", " # \"\n\t\n"), full())
	checkParse(t, " "+strings.ReplaceAll(fullText, " ", "\t \t"), full())
	checkParse(t, strings.ReplaceAll(fullText, "\n", "#\n"), full())
	checkParse(t, strings.ReplaceAll(fullText, "30% 25.5%", "30.0% 25.5%"), full())
	for _, text := range []string{"", "\n", " \t\n\n", "#", "# low\n#\n", "low 0% 0%", "high 0% 0.0%", "moves 0", "tries 0", "low 0% 0%\nhigh 0% 0%\nmoves 0\ntries 0\n"} {
		checkParse(t, text, api.Goal{})
	}
}

// TestParseWordsOfALine (P6.2): first words of lines are names where a name stands.
func TestParseWordsOfALine(t *testing.T) {
	checkParse(t, "drain drain high low moves on rollback tries", api.Goal{Drain: []string{"drain", "high", "low", "moves", "on", "rollback", "tries"}})
	checkParse(t, "on with\ndrain with\nmoves 1", api.Goal{On: api.OnWith, Drain: []string{"with"}, MaxMoves: 1})
	checkParse(t, "drain "+letters15, api.Goal{Drain: []string{letters15}})
}

// TestParseScan (P6.2): scan's errors, there, ahead of all others; what scan lets stand is read.
func TestParseScan(t *testing.T) {
	for text, want := range map[string]struct {
		line, col int
		e         api.Errno
	}{
		"tries 9\nOn":                     {2, 1, api.ErrForm},
		"x\ndrain \"a":                    {2, 9, api.ErrTrunc},
		"on\ndrain é":                     {2, 7, api.ErrForm},
		"low 30 % 20%":                    {1, 8, api.ErrForm},
		"moves -1":                        {1, 7, api.ErrForm},
		"moves +1":                        {1, 7, api.ErrForm},
		"rollback #\xff":                  {1, 11, api.ErrForm},
		"rollback\r\n":                    {1, 9, api.ErrForm},
		"on doubles,with":                 {1, 11, api.ErrForm},
		"drain a_b":                       {1, 8, api.ErrForm},
		strings.Repeat(" ", 65537):        {0, 0, api.ErrLimit},
		"x" + strings.Repeat("\n", 65535): {1, 1, api.ErrForm},
		"x" + strings.Repeat("\n", 65536): {0, 0, api.ErrLimit},
	} {
		checkWrong(t, text, want.line, want.col, want.e)
	}
	checkParse(t, strings.Repeat("#\n", 32764)+"rollback", api.Goal{Rollback: true})
	checkParse(t, "\trollback#é", api.Goal{Rollback: true})
}

// TestParseWrong (P6.2): wrong words, lines that end too early, and the first one of several faults.
func TestParseWrong(t *testing.T) {
	for text, want := range map[string]struct {
		line, col int
		e         api.Errno
	}{
		"lows 1% 1%":        {1, 1, api.ErrForm},
		"\"low\" 1% 1%":     {1, 1, api.ErrForm},
		"1":                 {1, 1, api.ErrForm},
		"*":                 {1, 1, api.ErrForm},
		"doubles":           {1, 1, api.ErrForm},
		"\n\n  x":           {3, 3, api.ErrForm},
		"low":               {1, 1, api.ErrTrunc},
		"high # 1% 1%":      {1, 1, api.ErrTrunc},
		"high\n1% 1%":       {1, 1, api.ErrTrunc},
		"low 1%":            {1, 5, api.ErrTrunc},
		"low 1%\n1%":        {1, 5, api.ErrTrunc},
		"  high\t0%  # 1%":  {1, 8, api.ErrTrunc},
		"low 1% 2% 3%":      {1, 11, api.ErrForm},
		"low 1% 2% x":       {1, 11, api.ErrForm},
		"low 1% 2% high":    {1, 11, api.ErrForm},
		"low x 1%":          {1, 5, api.ErrForm},
		"low 1% x":          {1, 8, api.ErrForm},
		"low \"1%\" 1%":     {1, 5, api.ErrForm},
		"low ; 1%":          {1, 5, api.ErrForm},
		"low 1 1%":          {1, 5, api.ErrTrunc}, // at the number, whatever place in it
		"low 1. 1%":         {1, 5, api.ErrTrunc},
		"low 1.5 1%":        {1, 5, api.ErrTrunc},
		"low 01% 1%":        {1, 5, api.ErrForm},
		"low 1.25% 1%":      {1, 5, api.ErrForm},
		"low 1x 1%":         {1, 5, api.ErrForm},
		"low 1%% 1%":        {1, 5, api.ErrForm},
		"low 1k 1%":         {1, 5, api.ErrForm},
		"low 101% 1%":       {1, 5, api.ErrOver},
		"low 100.1% 1%":     {1, 5, api.ErrOver},
		"high 1% 2":         {1, 9, api.ErrTrunc},
		"high 1% 02%":       {1, 9, api.ErrForm},
		"high 1% 101%":      {1, 9, api.ErrOver},
		"high 1% 101% 1%":   {1, 9, api.ErrOver},
		"low 101%":          {1, 5, api.ErrOver}, // ahead of the line's end
		"low 1x":            {1, 5, api.ErrForm},
		"low 101% x":        {1, 5, api.ErrOver},
		"high 1% 2x\nx":     {1, 9, api.ErrForm},
		"on # doubles":      {1, 1, api.ErrTrunc},
		"on\ndoubles":       {1, 1, api.ErrTrunc},
		"on double":         {1, 4, api.ErrForm},
		"on low":            {1, 4, api.ErrForm},
		"on all":            {1, 4, api.ErrForm},
		"on 1":              {1, 4, api.ErrForm},
		"on \"with\"":       {1, 4, api.ErrForm},
		"on with with":      {1, 9, api.ErrForm},
		"on with doubles":   {1, 9, api.ErrForm},
		"on with spread x":  {1, 16, api.ErrForm},
		"on empty spread":   {1, 10, api.ErrForm},
		"on doubles 1":      {1, 12, api.ErrForm},
		"drain":             {1, 1, api.ErrTrunc},
		"drain\na":          {1, 1, api.ErrTrunc},
		"drain 1":           {1, 7, api.ErrForm},
		"drain \"a\"":       {1, 7, api.ErrForm},
		"drain a 1":         {1, 9, api.ErrForm},
		"drain a : b":       {1, 9, api.ErrForm},
		"drain b a 1":       {1, 11, api.ErrForm}, // ahead of what is wrong with the policy
		"moves":             {1, 1, api.ErrTrunc},
		"tries # 1":         {1, 1, api.ErrTrunc},
		"moves x":           {1, 7, api.ErrForm},
		"tries \"1\"":       {1, 7, api.ErrForm},
		"moves 1 2":         {1, 9, api.ErrForm},
		"tries 1 x":         {1, 9, api.ErrForm},
		"moves 49 x":        {1, 10, api.ErrForm},
		"rollback x":        {1, 10, api.ErrForm},
		"rollback 1":        {1, 10, api.ErrForm},
		"rollback rollback": {1, 10, api.ErrForm},

		"drain " + letters16:          {1, 7, api.ErrForm},
		"drain a " + letters16 + " 1": {1, 9, api.ErrForm},

		"tries 1\nmoves 2":                  {2, 1, api.ErrForm},
		"high 1% 1%\nlow 1% 1%":             {2, 1, api.ErrForm},
		"low 1% 1%\nlow 1% 1%":              {2, 1, api.ErrForm},
		"moves 1\n\n# x\n \tmoves 1":        {4, 3, api.ErrForm},
		"on with\non empty":                 {2, 1, api.ErrForm},
		"drain a\ndrain b":                  {2, 1, api.ErrForm},
		"rollback\nrollback":                {2, 1, api.ErrForm},
		"rollback\nlow":                     {2, 1, api.ErrForm}, // ahead of its end
		"drain a\non with\nlow 1x 1%":       {2, 1, api.ErrForm},
		"on with\ndrain\nx":                 {2, 1, api.ErrTrunc},
		"low 2% 2%\nhigh 1% 1%\nmoves 1 x":  {3, 9, api.ErrForm},
		"low 2% 2%\nhigh 1% 1%\n\"x\"":      {3, 1, api.ErrForm},
		"tries 1\nrollback\n1":              {3, 1, api.ErrForm},
		"on with # \"\nmoves 1k # \"1":      {2, 7, api.ErrForm},
		strings.Repeat("#\n", 5000) + "low": {5001, 1, api.ErrTrunc},
	} {
		checkWrong(t, text, want.line, want.col, want.e)
	}
}

// TestParseNumbers (P6.2): digits, without a 0 ahead, nine at most.
func TestParseNumbers(t *testing.T) {
	for _, n := range []int{0, 1, 7, 8} {
		checkParse(t, "tries "+strconv.Itoa(n), api.Goal{Tries: n})
	}
	for _, n := range []int{0, 1, 9, 10, 48} {
		checkParse(t, "moves "+strconv.Itoa(n), api.Goal{MaxMoves: n})
	}
	for _, text := range []string{"49", "100", "999999999"} {
		checkWrong(t, "moves "+text, 0, 0, api.ErrGoal)
		checkWrong(t, "tries "+text, 0, 0, api.ErrGoal)
	}
	for _, text := range []string{"00", "01", "08", "000000001", "0000000001", "1000000000", "1000000000000000000000000", "1k", "1x", "1.0", "0.5", "1.", "1%", "1e1", "0x1", "1Ki", strings.Repeat("1", 5000)} {
		checkWrong(t, "moves "+text, 1, 7, api.ErrForm)
		checkWrong(t, "tries "+text+" x", 1, 7, api.ErrForm)
	}
}

// TestParseCheck (P6.2): Check's error, at 0, 0, of texts that can be read.
func TestParseCheck(t *testing.T) {
	for _, text := range []string{
		"low 1% 0%",
		"low 1% 1%\nhigh 100% 0.9%",
		"low 50.1% 0%\nhigh 50% 0%",
		"high 1% 1%\nmoves 49",
		"moves 1\ntries 9",
		"drain b a",
		"drain a a",
		"drain a b c d e f g h i",
		"drain a b c d e f g h" + strings.Repeat(" z", 30000),
		"\n\nmoves 48\n\ntries 10\nrollback\n",
	} {
		checkWrong(t, text, 0, 0, api.ErrGoal)
	}
	checkParse(t, "drain a b c d e f g h", api.Goal{Drain: []string{"a", "b", "c", "d", "e", "f", "g", "h"}})
	checkParse(t, "low 50% 0%\nhigh 50% 0%", api.Goal{Low: [2]int{500, 0}, High: [2]int{500, 0}})
}

// order are the chapter's lines: the first word, and the rows of words that may stand behind it.
var order = []struct {
	key  string
	rows [][]string
}{
	{"low", [][]string{{"P", "P"}}},
	{"high", [][]string{{"P", "P"}}},
	{"on", someOf("doubles", "with", "taints", "spread", "empty")},
	{"drain", upToNames(9)},
	{"moves", [][]string{{"N"}}},
	{"tries", [][]string{{"N"}}},
	{"rollback", [][]string{{}}},
}

// someOf are all rows of one or more of these words, in this order.
func someOf(words ...string) (rows [][]string) {
	for bits := 1; bits < 1<<len(words); bits++ {
		var row []string
		for i, word := range words {
			if bits>>i&1 == 1 {
				row = append(row, word)
			}
		}
		rows = append(rows, row)
	}
	return rows
}

func upToNames(most int) (rows [][]string) {
	for n := 1; n <= most; n++ {
		rows = append(rows, slices.Repeat([]string{"NAME"}, n))
	}
	return rows
}

// wordError is what is wrong with a word where one of the table should stand.
func wordError(want string, w api.Word) api.Errno {
	is := w.Kind == api.WordName && w.Text == want
	switch want {
	case "P":
		if w.Kind == api.WordNumber {
			_, _, e := quant.Percent(w.Text)
			return e
		}
	case "N":
		is = w.Kind == api.WordNumber && len(w.Text) <= 9 && strings.Trim(w.Text, "0123456789") == "" && (w.Text == "0" || w.Text[0] != '0')
	case "NAME":
		is = w.Kind == api.WordName && len(w.Text) <= 15
	}
	if !is {
		return api.ErrForm
	}
	return api.OK
}

// wantLine is what is wrong with a line, at which word, by the lines that may come; and the place in the order behind it.
func wantLine(words []api.Word, from int) (next, at int, e api.Errno) {
	for next = from; next < len(order); next++ {
		if wordError(order[next].key, words[0]) == api.OK {
			break
		}
	}
	if next == len(order) {
		return next, 0, api.ErrForm
	}
	may := order[next].rows
	for i, w := range words[1:] {
		e := api.ErrForm
		var left [][]string
		for _, row := range may {
			if i == len(row) {
				continue
			}
			switch got := wordError(row[i], w); got {
			case api.OK:
				left = append(left, row)
			case api.ErrForm:
			default:
				e = got
			}
		}
		if len(left) == 0 {
			return next, i + 1, e
		}
		may = left
	}
	for _, row := range may {
		if len(row) == len(words)-1 {
			return next + 1, 0, api.OK
		}
	}
	return next, len(words) - 1, api.ErrTrunc
}

// wantText is what is wrong with a text, and the word where it is.
func wantText(words []api.Word) (at api.Word, e api.Errno) {
	next := 0
	for len(words) > 0 {
		n := scan.Line(words, 0)
		var wrong int
		if next, wrong, e = wantLine(words[:n], next); e != api.OK {
			return words[wrong], e
		}
		words = words[n:]
	}
	return api.Word{}, api.OK
}

// checkText holds what is said of a text against the chapter's table. Where that can be read, and may be, it is printed as it says.
func checkText(t *testing.T, text string) {
	words, _, _, e := scan.Words(text)
	if e != api.OK {
		t.Fatalf("%q: %d", text, e)
	}
	g, line, col, e := policy.Parse(text)
	at, want := wantText(words)
	if e != want && (want != api.OK || e != api.ErrGoal) || line != at.Line || col != at.Col {
		t.Errorf("Parse(%q): %d, %d, %d, not %d, %d, %d", text, line, col, e, at.Line, at.Col, want)
	}
	if e != api.OK {
		if !nothing(g) {
			t.Errorf("Parse(%q): %v beside an error", text, g)
		}
		return
	}
	checkBothWays(t, g, saying(text))
}

// saying is a text whose words are written shortest, without the lines that say nothing.
func saying(text string) (said string) {
	for line := range strings.Lines(text) {
		if line = strings.TrimSpace(line); line != "" && !strings.HasSuffix(line, " 0% 0%") && !strings.HasSuffix(line, " 0") {
			said += line + "\n"
		}
	}
	return said
}

// eachLine goes through all lines of a beginning, and at most that many of these words.
func eachLine(begin string, most int, words []string, f func(text string)) {
	f(begin)
	if most == 0 {
		return
	}
	for _, w := range words {
		eachLine(begin+" "+w, most-1, words, f)
	}
}

// TestParseAllLines (P6.2, P6.3, P6.5): all lines of a few words, held against the chapter's table.
func TestParseAllLines(t *testing.T) {
	check := func(text string) { checkText(t, text) }
	shares := []string{"0%", "100%", "55.5%", "100.1%", "101%", "1", "1.", "05%", "1.55%", "1x", "x", `"1%"`, ";", "low"}
	numbers := []string{"0", "1", "8", "9", "48", "49", "01", "1%", "1k", "999999999", "1000000000", "a", `"1"`, "*"}
	eachLine("low", 3, shares, check)
	eachLine("high", 3, shares, check)
	eachLine("moves", 2, numbers, check)
	eachLine("tries", 2, numbers, check)
	eachLine("rollback", 2, append(numbers, "rollback"), check)
	eachLine("on", 5, []string{"doubles", "with", "taints", "spread", "empty", "x", "1"}, check)
	eachLine("on", 2, []string{"doubles", "empty", "on", "drain", "with-", "withs", letters16, `"with"`, `""`, "0", "{"}, check)
	eachLine("drain", 3, []string{"a", "b", "c", "drain", "on", letters15, letters16, `"a"`, "1", ":"}, check)
	for _, w := range []string{"lo", "low-", "highs", "drains", "doubles", letters16, `"on"`, `""`, "0", "1%", "}"} {
		eachLine(w, 2, []string{"low", "a", "1", "1%", `""`, ":"}, check)
	}
}

// TestParseAllOrders (P6.2, P6.3, P6.5): all texts of a few lines, of which some say nothing, and some can't be read, held against the chapter's table.
func TestParseAllOrders(t *testing.T) {
	lines := []string{"low 1% 2%", "high 30% 99.9%", "on with empty", "drain a b", "moves 5", "tries 2", "rollback", "low 0% 0%", "tries 0", "on", "moves 1k", "x", ""}
	var each func(text string, most int)
	each = func(text string, most int) {
		checkText(t, text)
		if most == 0 {
			return
		}
		for _, line := range lines {
			each(text+line+"\n", most-1)
		}
	}
	each("", 4)
	readable := strings.Join(lines[:7], "\n") + "\n"
	checkText(t, readable)
	checkWrong(t, readable+"x", 8, 1, api.ErrForm)
	for i, line := range lines[:7] {
		checkWrong(t, readable+line, 8, 1, api.ErrForm)
		checkText(t, strings.Join(slices.Delete(slices.Clone(lines[:7]), i, i+1), "\n"))
	}
}

// TestParsedIsPrinted (P6.5): what can be parsed prints to a text that says the same, however it was written; one word more or less, or another one, is told as the chapter's table says.
func TestParsedIsPrinted(t *testing.T) {
	r := rand.New(rand.NewSource(6))
	other := []string{"a", "z", "on", "with", "empty", "low", "rollback", "0", "1", "01", "1%", "101%", "1x", `"a"`, "*", letters16}
	eachPolicy(t, 3000, func(g api.Goal) {
		text, _ := policy.Print(g)
		lines := strings.SplitAfter(text, "\n")
		i := r.Intn(len(lines))
		words := strings.Fields(lines[i])
		at := r.Intn(len(words) + 1)
		more := other[r.Intn(len(other))]
		for _, changed := range [][]string{
			slices.Insert(slices.Clone(words), at, more),
			slices.Concat(words[:at], []string{more}, words[min(at+1, len(words)):]),
			slices.Delete(slices.Clone(words), min(at, max(0, len(words)-1)), min(at+1, len(words))),
		} {
			changedText := strings.Join(lines[:i], "") + strings.Join(changed, " ") + "\n" + strings.Join(lines[i+1:], "")
			checkSays(t, changedText)
		}
	})
}

// checkSays holds what is said of a text against the chapter's table; if it can be parsed, its print is parsed as the same, and printed as it is.
func checkSays(t *testing.T, text string) {
	t.Helper()
	words, _, _, _ := scan.Words(text)
	at, want := wantText(words)
	g, line, col, e := policy.Parse(text)
	if e != want && (want != api.OK || e != api.ErrGoal) || line != at.Line || col != at.Col {
		t.Errorf("Parse(%q): %d, %d, %d, not %d, %d, %d", text, line, col, e, at.Line, at.Col, want)
	}
	if e == api.OK {
		printed, _ := policy.Print(g)
		checkBothWays(t, g, printed)
	}
}
