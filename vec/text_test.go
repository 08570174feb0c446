package vec_test

import (
	"math"
	"regexp"
	"slices"
	"strings"
	"testing"

	"drayage/api"
	"drayage/quant"
	"drayage/vec"
)

type said struct {
	v  api.Vec
	at int
	e  api.Errno
}

func parse(text string) said {
	v, at, e := vec.Parse(text)
	return said{v, at, e}
}

func checkParse(t *testing.T, text string, want said) {
	t.Helper()
	if got := parse(text); got != want {
		t.Errorf("Parse(%q): %v, not %v", text, got, want)
	}
}

func checkPrint(t *testing.T, v api.Vec, want string, e api.Errno) {
	t.Helper()
	if s, x := vec.Print(v); s != want || x != e {
		t.Errorf("Print(%v): %q, %d, not %q, %d", v, s, x, want, e)
	}
}

// TestParseRows (P2.3): what texts say; cpu alone is in thousandths.
func TestParseRows(t *testing.T) {
	for text, v := range map[string]api.Vec{
		"":                                   {},
		"cpu=1":                              {1000},
		"mem=1":                              {0, 1},
		"disk=1":                             {0, 0, 1},
		"slots=1":                            {0, 0, 0, 1},
		"extra=1":                            {0, 0, 0, 0, 1},
		"cpu=1,mem=2,disk=3,slots=4,extra=5": {1000, 2, 3, 4, 5},
		"cpu=0.001,extra=1024Gi":             {1, 0, 0, 0, most},
		"cpu=1m":                             {1},
		"cpu=1099511627776m":                 {most},
		"mem=1000m":                          {0, 1},
		"mem=1.5Ki,slots=2.0":                {0, 1536, 0, 2},
		"disk=1k,extra=0.5k":                 {0, 0, 1000, 0, 500},
	} {
		checkParse(t, text, said{v, 0, api.OK})
	}
}

// TestParseNames (P2.3): a name goes up to the next =, or the end, and stands behind the one ahead in the order.
func TestParseNames(t *testing.T) {
	for text, at := range map[string]int{
		"x=1":                   0,
		"=":                     0,
		"=1":                    0,
		",":                     0,
		",cpu=1":                0,
		"Cpu=1":                 0,
		"cpus=1":                0,
		"cp=1":                  0,
		" cpu=1":                0,
		"cpu =1":                0,
		"cpu,mem=1":             0, // the name is cpu,mem
		"cpu,":                  0,
		"cpu1":                  0,
		"cp":                    0, // up to the end, and none
		"x":                     0,
		"é=1":                   0,
		"\xff":                  0,
		"cpu\xff=1":             0,
		"cpu=1,cpu=1":           6,
		"cpu=1,cpu":             6,
		"cpu=1,=":               6,
		"cpu=1,,mem=1":          6,
		"cpu=1, mem=1":          6,
		"cpu=1,me":              6,
		"cpu=1,é":               6,
		"disk=1,mem=1":          7,
		"disk=1,mem":            7,
		"slots=1,disk=1":        8,
		"extra=1,cpu=1":         8,
		"extra=1,extra=1":       8,
		"extra=1,extra":         8,
		"extra=1,x":             8,
		"extra=1,":              8, // at the end: no name can stand there
		"extra=1,,":             8,
		"cpu=1,mem=1,extra=2k,": 21,
		"cpu=x,mem=1,cpu=1":     4, // the first one that is wrong
		"x=1,cpu=":              0,
	} {
		checkParse(t, text, said{at: at, e: api.ErrForm})
	}
}

// TestParseEnds (P2.3): texts that end too early.
func TestParseEnds(t *testing.T) {
	for _, text := range []string{"cpu", "extra", "cpu=", "extra=", "cpu=1,", "slots=1,", "cpu=1.", "mem=1K", "cpu=1,mem", "cpu=1,extra", "cpu=1,mem=", "mem=1,disk=2,extra=3.", "cpu=1,mem=1Ki,slots=1,"} {
		checkParse(t, text, said{at: len(text), e: api.ErrTrunc})
	}
}

// TestParseQuantities (P2.3): quant.Parse's errors, and noughts.
func TestParseQuantities(t *testing.T) {
	long := strings.Repeat("9", 5000)
	for text, want := range map[string]said{
		"cpu=1x":                   {at: 5, e: api.ErrForm},
		"cpu==1":                   {at: 4, e: api.ErrForm},
		"cpu=1=1":                  {at: 5, e: api.ErrForm},
		"cpu=-1":                   {at: 4, e: api.ErrForm},
		"cpu= 1":                   {at: 4, e: api.ErrForm},
		"cpu=1 ":                   {at: 5, e: api.ErrForm},
		"cpu=1;mem=1":              {at: 5, e: api.ErrForm},
		"cpu=1mem=1":               {at: 6, e: api.ErrForm},
		"cpu=07":                   {at: 5, e: api.ErrForm},
		"cpu=1é":                   {at: 5, e: api.ErrForm},
		"cpu=1\xff,mem=1":          {at: 5, e: api.ErrForm},
		"cpu=1,mem=1Kx":            {at: 12, e: api.ErrForm},
		"cpu=1,mem=1.5":            {at: 10, e: api.ErrForm}, // no whole number: where the quantity begins
		"cpu=1.5m":                 {at: 4, e: api.ErrForm},
		"cpu=1,mem=1m":             {at: 10, e: api.ErrForm},
		"cpu=1099511627777m":       {at: 4, e: api.ErrOver},
		"cpu=1.5,extra=1025Gi":     {at: 14, e: api.ErrOver},
		"mem=" + long:              {at: 4, e: api.ErrOver},
		"mem=" + long + "x":        {at: 5004, e: api.ErrForm},
		"mem=" + long + ",disk=1x": {at: 4, e: api.ErrOver},
		"cpu=0":                    {at: 0, e: api.ErrForm},
		"cpu=0.000m":               {at: 0, e: api.ErrForm},
		"cpu=1,mem=0Gi":            {at: 6, e: api.ErrForm}, // at the name of that part
		"cpu=0,mem=x":              {at: 0, e: api.ErrForm},
		"cpu=1,extra=0,":           {at: 6, e: api.ErrForm},
		"cpu=,mem=1":               {at: 4, e: api.ErrTrunc}, // what quant.Parse says of nothing
		"cpu=1.,mem=1":             {at: 6, e: api.ErrTrunc},
		"mem=1K,disk=1":            {at: 6, e: api.ErrTrunc},
		"cpu=1,mem=,":              {at: 10, e: api.ErrTrunc},
	} {
		checkParse(t, text, want)
	}
}

// cut is a text's first part, and what stands behind it: its name, its =, its quantity, its comma, and the rest.
var cut = regexp.MustCompile(`(?s)^([^=]*)(?:(=)([^,]*)(?:(,)(.*))?)?$`)

// wantParse is what the words ask for of a text: ahead of it stand that many bytes, and the names that are left can stand in it.
func wantParse(text string, ahead int, left []string) said {
	if text == "" && len(left) > 0 {
		return said{at: ahead, e: api.ErrTrunc}
	}
	m := cut.FindStringSubmatch(text)
	i := slices.Index(left, m[1])
	switch {
	case i < 0:
		return said{at: ahead, e: api.ErrForm}
	case m[2] == "":
		return said{at: ahead + len(text), e: api.ErrTrunc}
	}
	n, at, e := quant.Parse(m[3], m[1] == "cpu")
	switch {
	case e != api.OK:
		return said{at: ahead + len(m[1]) + 1 + at, e: e}
	case n == 0:
		return said{at: ahead, e: api.ErrForm}
	}
	var rest said
	if m[4] != "" {
		rest = wantParse(m[5], ahead+len(text)-len(m[5]), left[i+1:])
	}
	if rest.e == api.OK {
		rest.v[api.Kinds-len(left)+i] = n
	}
	return rest
}

// eachText goes through all texts of at most that many of these pieces.
func eachText(most int, pieces []string, f func(text string)) {
	var more func(text string, left int)
	more = func(text string, left int) {
		f(text)
		if left == 0 {
			return
		}
		for _, p := range pieces {
			more(text+p, left-1)
		}
	}
	more("", most)
}

// TestParseAllTexts (P2.3): all texts of a few pieces, held against the words.
func TestParseAllTexts(t *testing.T) {
	names := []string{"cpu", "mem", "disk", "slots", "extra"}
	check := func(text string) {
		want := said{}
		if text != "" {
			want = wantParse(text, 0, names)
		}
		checkParse(t, text, want)
	}
	eachText(5, []string{"cpu", "mem", "extra", "c", "=", ",", "0", "1", ".", "K", "é", "\xff"}, check)
	eachText(4, []string{"cpu=", "mem=", "disk=", "slots=", "extra=", "1,", "0,", "1.5", "2Ki", ",", "1025Gi", "x"}, check)
	eachText(6, []string{"cpu=1", "disk=2", "slots=3", "extra=4", ","}, check)
}

// TestPrint (P2.3): noughts are left out; cpu alone is in thousandths.
func TestPrint(t *testing.T) {
	for v, want := range map[api.Vec]string{
		{}:                                 "",
		{1}:                                "cpu=1m",
		{0, 1}:                             "mem=1",
		{0, 0, 1}:                          "disk=1",
		{0, 0, 0, 1}:                       "slots=1",
		{0, 0, 0, 0, 1}:                    "extra=1",
		{1000, 1000, 1000, 1000, 1000}:     "cpu=1,mem=1000,disk=1000,slots=1000,extra=1000",
		{1024, 1024, 1 << 20, 3 << 30, 5}:  "cpu=1024m,mem=1Ki,disk=1Mi,slots=3Gi,extra=5",
		{most, most, 0, 0, most}:           "cpu=1099511627776m,mem=1024Gi,extra=1024Gi",
		{250, 3 << 20, 0, 1, 7}:            "cpu=250m,mem=3Mi,slots=1,extra=7",
		{2000, 0, 1<<40 - 1, 0, 1<<20 + 1}: "cpu=2,disk=1099511627775,extra=1048577",
	} {
		checkPrint(t, v, want, api.OK)
	}
}

// TestPrintWrong (P2.3): Check's error, of any place.
func TestPrintWrong(t *testing.T) {
	for i := range api.Kinds {
		for n, e := range map[int]api.Errno{-1: api.ErrArg, math.MinInt: api.ErrArg, most + 1: api.ErrOver, math.MaxInt: api.ErrOver} {
			v := api.Vec{1, 1, 1, 1, 1}
			v[i] = n
			checkPrint(t, v, "", e)
		}
	}
	checkPrint(t, api.Vec{most + 1, 0, 0, 0, -1}, "", api.ErrArg)
}

// TestPrintedIsParsed (P2.4): what was printed is parsed as it was.
func TestPrintedIsParsed(t *testing.T) {
	eachRow([]int{0, 1, 2, 500, 999, 1000, 1023, 1024, 1500, 1 << 20, 1<<20 + 1, 3 << 29, 1 << 30, most - 1, most}, func(v api.Vec) {
		text, e := vec.Print(v)
		if e != api.OK {
			t.Fatalf("Print(%v): %d", v, e)
		}
		checkParse(t, text, said{v, 0, api.OK})
	})
	for bits := range 1 << api.Kinds { // which places are noughts
		var v api.Vec
		for i := range v {
			v[i] = bits >> i & 1 * (1000 + i)
		}
		text, e := vec.Print(v)
		if e != api.OK {
			t.Fatalf("Print(%v): %d", v, e)
		}
		checkParse(t, text, said{v, 0, api.OK})
	}
}
