package quant_test

import (
	"math"
	"math/big"
	"strings"
	"testing"

	"drayage/api"
	"drayage/quant"
)

type said struct {
	n, at int
	e     api.Errno
}

func parse(text string, milli bool) said {
	n, at, e := quant.Parse(text, milli)
	return said{n, at, e}
}

func percent(text string) said {
	n, at, e := quant.Percent(text)
	return said{n, at, e}
}

// TestExamples holds the chapter's table.
func TestExamples(t *testing.T) {
	for _, x := range []struct {
		text  string
		milli bool
		want  said
	}{
		{"1.5", true, said{1500, 0, api.OK}},
		{"500m", true, said{500, 0, api.OK}},
		{"2Gi", false, said{2147483648, 0, api.OK}},
		{"1.5k", false, said{1500, 0, api.OK}},
		{"1.5", false, said{0, 0, api.ErrForm}},
		{"07", false, said{0, 1, api.ErrForm}},
		{"1.", false, said{0, 2, api.ErrTrunc}},
		{"2x", false, said{0, 1, api.ErrForm}},
		{"5é", false, said{0, 1, api.ErrForm}},
		{"", false, said{0, 0, api.ErrTrunc}},
		{"1025Gi", false, said{0, 0, api.ErrOver}},
	} {
		if got := parse(x.text, x.milli); got != x.want {
			t.Errorf("Parse(%q, %v): %v, not %v", x.text, x.milli, got, x.want)
		}
	}
	for text, want := range map[string]said{
		"85.5%": {855, 0, api.OK},
		"85":    {0, 2, api.ErrTrunc},
		"101%":  {0, 0, api.ErrOver},
	} {
		if got := percent(text); got != want {
			t.Errorf("Percent(%q): %v, not %v", text, got, want)
		}
	}
	checkPrint(t, 1500, true, "1500m", api.OK)
	checkPrint(t, 3072, false, "3Ki", api.OK)
	checkPrint(t, 0, false, "0", api.OK)
	checkPrintPercent(t, 855, "85.5%", api.OK)
	checkPair(t, "Share", quant.Share, 1, 3, 333, api.OK)
	checkPair(t, "Share", quant.Share, 0, 0, 0, api.OK)
	checkPair(t, "Share", quant.Share, 1, 0, 0, api.ErrArg)
	checkPair(t, "Sub", quant.Sub, 2, 3, 0, api.ErrArg)
	checkPair(t, "Mul", quant.Mul, 1<<20, 1<<21, 0, api.ErrOver)
}

func checkPrint(t *testing.T, n int, milli bool, want string, e api.Errno) {
	t.Helper()
	if s, x := quant.Print(n, milli); s != want || x != e {
		t.Errorf("Print(%d, %v): %q, %d, not %q, %d", n, milli, s, x, want, e)
	}
}

func checkPrintPercent(t *testing.T, n int, want string, e api.Errno) {
	t.Helper()
	if s, x := quant.PrintPercent(n); s != want || x != e {
		t.Errorf("PrintPercent(%d): %q, %d, not %q, %d", n, s, x, want, e)
	}
}

func checkPair(t *testing.T, name string, f func(a, b int) (int, api.Errno), a, b, want int, e api.Errno) {
	t.Helper()
	if n, x := f(a, b); n != want || x != e {
		t.Errorf("%s(%d, %d): %d, %d, not %d, %d", name, a, b, n, x, want, e)
	}
}

// TestParseForm (P1.1): where a text is wrong, whatever it would say.
func TestParseForm(t *testing.T) {
	for text, want := range map[string]said{
		"K":        {0, 0, api.ErrForm},
		".5":       {0, 0, api.ErrForm},
		"-1":       {0, 0, api.ErrForm},
		"+1":       {0, 0, api.ErrForm},
		" 1":       {0, 0, api.ErrForm},
		"1 ":       {0, 1, api.ErrForm},
		"00":       {0, 1, api.ErrForm},
		"0.":       {0, 2, api.ErrTrunc},
		"1..":      {0, 2, api.ErrForm},
		"1.m":      {0, 2, api.ErrForm},
		"1.5.":     {0, 3, api.ErrForm},
		"1.2345":   {0, 5, api.ErrForm},
		"1K":       {0, 2, api.ErrTrunc},
		"1.5K":     {0, 4, api.ErrTrunc},
		"1Kx":      {0, 2, api.ErrForm},
		"1KI":      {0, 2, api.ErrForm},
		"1Kié":     {0, 3, api.ErrForm},
		"1i":       {0, 1, api.ErrForm},
		"1ki":      {0, 2, api.ErrForm},
		"1mi":      {0, 2, api.ErrForm},
		"1Mii":     {0, 3, api.ErrForm},
		"1Mk":      {0, 2, api.ErrForm},
		"1M1":      {0, 2, api.ErrForm},
		"1k.5":     {0, 2, api.ErrForm},
		"1%":       {0, 1, api.ErrForm},
		"1Ti":      {0, 1, api.ErrForm},
		"1e3":      {0, 1, api.ErrForm},
		"1\xff":    {0, 1, api.ErrForm},
		"1.\xc3":   {0, 2, api.ErrForm},
		"1\ufffd":  {0, 1, api.ErrForm},
		"é":        {0, 0, api.ErrForm},
		"１":        {0, 0, api.ErrForm}, // a digit, but none of these
		"1\x00":    {0, 1, api.ErrForm},
		"9999999x": {0, 7, api.ErrForm},
	} {
		for _, milli := range []bool{false, true} {
			if got := parse(text, milli); got != want {
				t.Errorf("Parse(%q, %v): %v, not %v", text, milli, got, want)
			}
		}
	}
	long := strings.Repeat("9", 5000)
	if got := parse(long+"x", false); got != (said{0, 5000, api.ErrForm}) {
		t.Error("a long one with an x behind it:", got)
	}
	if got := parse(long+".", true); got != (said{0, 5001, api.ErrTrunc}) {
		t.Error("a long one with a point behind it:", got)
	}
	if got := parse(long, false); got != (said{0, 0, api.ErrOver}) {
		t.Error("a long one:", got)
	}
}

// whatItSays reckons in fractions of any size what Parse must answer of a text that is one.
func whatItSays(digits, suffix string, milli bool) said {
	r, ok := new(big.Rat).SetString(digits)
	if !ok {
		panic(digits)
	}
	scale := map[string]*big.Rat{
		"": big.NewRat(1, 1), "m": big.NewRat(1, 1000),
		"k": big.NewRat(1e3, 1), "M": big.NewRat(1e6, 1), "G": big.NewRat(1e9, 1),
		"Ki": big.NewRat(1<<10, 1), "Mi": big.NewRat(1<<20, 1), "Gi": big.NewRat(1<<30, 1),
	}[suffix]
	r.Mul(r, scale)
	if milli {
		r.Mul(r, big.NewRat(1000, 1))
	}
	switch {
	case r.Cmp(big.NewRat(1<<40, 1)) > 0:
		return said{0, 0, api.ErrOver}
	case !r.IsInt():
		return said{0, 0, api.ErrForm}
	}
	return said{int(r.Num().Int64()), 0, api.OK}
}

// TestParseNumbers (P1.1): what texts say, at both sides of each bound.
func TestParseNumbers(t *testing.T) {
	wholes := []string{"0", "1", "2", "9", "10", "999", "1000", "1023", "1024", "1025", "1073", "1099", "1100",
		"1048575", "1048576", "1048577", "1073741823", "1073741824", "1073741825", "1099511", "1099512", "1099511627", "1099511628",
		"1099511627775", "1099511627776", "1099511627777", "1099511627775999", "1099511627776000", "1099511627776001",
		"1125899906842624", "1125899906842625", "9223372036854775807", "9223372036854775808", "18446744073709551615", "18446744073709551616",
		"18446744073709551617", "100000000000000000000000000000000000000000"}
	parts := []string{"", ".0", ".5", ".1", ".00", ".25", ".000", ".001", ".125", ".500", ".512", ".627", ".628", ".776", ".777", ".999"}
	for _, whole := range wholes {
		for _, part := range parts {
			for _, suffix := range []string{"", "m", "k", "M", "G", "Ki", "Mi", "Gi"} {
				for _, milli := range []bool{false, true} {
					text := whole + part + suffix
					if got, want := parse(text, milli), whatItSays(whole+part, suffix, milli); got != want {
						t.Errorf("Parse(%q, %v): %v, not %v", text, milli, got, want)
					}
				}
			}
		}
	}
}

// TestParseOrder (P1.1): of a text that says too much, and no whole number, that it is too much is told.
func TestParseOrder(t *testing.T) {
	for text, milli := range map[string]bool{"1099511627776.5": false, "1099511627776000.1m": false, "1099511627776.5m": true, "99999999999999999999.999": false} {
		if got := parse(text, milli); got != (said{0, 0, api.ErrOver}) {
			t.Errorf("Parse(%q, %v): %v", text, milli, got)
		}
	}
	if got := parse("1099511627775.5", false); got != (said{0, 0, api.ErrForm}) {
		t.Error(got)
	}
}

// TestPrint (P1.2): ordinary ones, bounds, and what is no quantity.
func TestPrint(t *testing.T) {
	for n, want := range map[int]string{
		0: "0", 1: "1", 1000: "1000", 1023: "1023", 1024: "1Ki", 1025: "1025", 1536: "1536", 2048: "2Ki",
		1<<20 - 1: "1048575", 1<<20 - 1024: "1023Ki", 1 << 20: "1Mi", 1<<20 + 1024: "1025Ki", 3 << 20: "3Mi",
		1 << 30: "1Gi", 1<<30 + 1<<20: "1025Mi", 3 << 29: "1536Mi", 1<<40 - 1: "1099511627775", 1 << 40: "1024Gi",
	} {
		checkPrint(t, n, false, want, api.OK)
	}
	for n, want := range map[int]string{
		0: "0", 1: "1m", 999: "999m", 1000: "1", 1001: "1001m", 1024: "1024m", 2000: "2", 1024000: "1024",
		1 << 40: "1099511627776m", 1099511627000: "1099511627",
	} {
		checkPrint(t, n, true, want, api.OK)
	}
	for _, n := range []int{-1, -1024, 1<<40 + 1, 1 << 41, math.MaxInt, math.MinInt} {
		checkPrint(t, n, false, "", api.ErrArg)
		checkPrint(t, n, true, "", api.ErrArg)
	}
}

// TestPercent (P1.3): ordinary ones, bounds, and texts that are wrong.
func TestPercent(t *testing.T) {
	long := strings.Repeat("9", 5000)
	for text, want := range map[string]said{
		"0%":         {0, 0, api.OK},
		"0.0%":       {0, 0, api.OK},
		"0.1%":       {1, 0, api.OK},
		"7%":         {70, 0, api.OK},
		"99.9%":      {999, 0, api.OK},
		"100%":       {1000, 0, api.OK},
		"100.0%":     {1000, 0, api.OK},
		"100.1%":     {0, 0, api.ErrOver},
		long + "%":   {0, 0, api.ErrOver},
		long + ".5%": {0, 0, api.ErrOver},
		long:         {0, 5000, api.ErrTrunc},
		"":           {0, 0, api.ErrTrunc},
		"85.":        {0, 3, api.ErrTrunc},
		"85.5":       {0, 4, api.ErrTrunc},
		"101":        {0, 3, api.ErrTrunc},
		"%":          {0, 0, api.ErrForm},
		".5%":        {0, 0, api.ErrForm},
		"-1%":        {0, 0, api.ErrForm},
		"05%":        {0, 1, api.ErrForm},
		"00%":        {0, 1, api.ErrForm},
		"5.%":        {0, 2, api.ErrForm},
		"5.55%":      {0, 3, api.ErrForm},
		"5..5%":      {0, 2, api.ErrForm},
		"5%%":        {0, 2, api.ErrForm},
		"5%5":        {0, 2, api.ErrForm},
		"5%.":        {0, 2, api.ErrForm},
		"5m":         {0, 1, api.ErrForm},
		"5k%":        {0, 1, api.ErrForm},
		"5 %":        {0, 1, api.ErrForm},
		"5％":         {0, 1, api.ErrForm}, // a per cent sign, but not this one
		"5.\xff":     {0, 2, api.ErrForm},
	} {
		if got := percent(text); got != want {
			t.Errorf("Percent(%.20q): %v, not %v", text, got, want)
		}
	}
}

// TestPrintPercent (P1.3).
func TestPrintPercent(t *testing.T) {
	for n, want := range map[int]string{0: "0%", 1: "0.1%", 9: "0.9%", 10: "1%", 11: "1.1%", 500: "50%", 999: "99.9%", 1000: "100%"} {
		checkPrintPercent(t, n, want, api.OK)
	}
	for _, n := range []int{-1, 1001, math.MinInt, math.MaxInt} {
		checkPrintPercent(t, n, "", api.ErrArg)
	}
}
