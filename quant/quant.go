// Package quant is layer 1: quantities as texts, and checked sums. See shared/doc/01-quant.md.
package quant

import (
	"strconv"

	"drayage/api"
)

// Units of quantities; suffixes are kept in thousandths of them, so that m is a whole number, too.
const (
	thousand = 1000
	million  = thousand * thousand
	billion  = thousand * million

	kibi = 1 << 10
	mebi = 1 << 20
	gibi = 1 << 30
)

// maxShare is the whole, per mille.
const maxShare = 1000

// Parse reads a quantity, in thousandths, if milli. Beside an error stands the byte where the text is wrong, or 0, if only what it says is.
func Parse(text string, milli bool) (n, at int, e api.Errno) {
	value, scale, at, e := read(text, grammar{places: 3, scales: suffixes()})
	if e != api.OK {
		return 0, at, e
	}
	if milli {
		scale *= thousand
	}
	// Divided rather than multiplied: the product might go beyond an int.
	if value > api.MaxQty*million/scale {
		return 0, 0, api.ErrOver
	}
	millionths := value * scale
	if millionths%million != 0 {
		return 0, 0, api.ErrForm
	}
	return millionths / million, 0, api.OK
}

// suffixes tells how many thousandths each suffix stands for. A 0 is no suffix yet, but goes on to one.
func suffixes() map[string]int {
	return map[string]int{
		"":   thousand,
		"m":  1,
		"k":  thousand * thousand,
		"M":  thousand * million,
		"G":  thousand * billion,
		"K":  0,
		"Ki": thousand * kibi,
		"Mi": thousand * mebi,
		"Gi": thousand * gibi,
	}
}

// Print writes a quantity, which is one of thousandths, if milli.
func Print(n int, milli bool) (string, api.Errno) {
	if n < 0 || n > api.MaxQty {
		return "", api.ErrArg
	}
	if milli {
		return printMilli(n), api.OK
	}
	return printWhole(n), api.OK
}

func printMilli(n int) string {
	if n%thousand == 0 {
		return strconv.Itoa(n / thousand)
	}
	return strconv.Itoa(n) + "m"
}

func printWhole(n int) string {
	switch {
	case n == 0: // a multiple of all of them
		return "0"
	case n%gibi == 0:
		return strconv.Itoa(n/gibi) + "Gi"
	case n%mebi == 0:
		return strconv.Itoa(n/mebi) + "Mi"
	case n%kibi == 0:
		return strconv.Itoa(n/kibi) + "Ki"
	}
	return strconv.Itoa(n)
}

// Percent reads a share, per mille. Beside an error stands the byte where the text is wrong, or 0, if only what it says is.
func Percent(text string) (n, at int, e api.Errno) {
	value, scale, at, e := read(text, grammar{places: 1, scales: map[string]int{"%": 1}})
	if e != api.OK {
		return 0, at, e
	}
	if value*scale > maxShare {
		return 0, 0, api.ErrOver
	}
	return value * scale, 0, api.OK
}

// PrintPercent writes a share that is per mille.
func PrintPercent(n int) (string, api.Errno) {
	if n < 0 || n > maxShare {
		return "", api.ErrArg
	}
	text := strconv.Itoa(n / 10)
	if n%10 != 0 {
		text += "." + strconv.Itoa(n%10)
	}
	return text + "%", api.OK
}
