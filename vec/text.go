package vec

import (
	"strings"

	"drayage/api"
	"drayage/quant"
)

// names are those of a row's places, in their order.
var names = [api.Kinds]string{"cpu", "mem", "disk", "slots", "extra"}

// nowhere is the place of a name that can't stand.
const nowhere = -1

// part is one of a row's text: a place, its quantity, and the byte behind it.
type part struct {
	place, n, end int
}

// Parse reads a row. Beside an error stands the byte where the text is wrong.
func Parse(text string) (v api.Vec, at int, e api.Errno) {
	if text == "" { // the text of a row of noughts, which has no part
		return api.Vec{}, 0, api.OK
	}
	from, next := 0, 0
	for {
		p, wrong, err := readPart(text, from, next)
		if err != api.OK {
			return api.Vec{}, wrong, err
		}
		v[p.place] = p.n
		if p.end == len(text) {
			return v, 0, api.OK
		}
		from, next = p.end+1, p.place+1
	}
}

// readPart reads the part that begins at from, and whose place is next, or one behind it.
func readPart(text string, from, next int) (p part, at int, e api.Errno) {
	if from == len(text) && next < api.Kinds { // behind the last place nothing is missing: there the comma is wrong
		return part{}, from, api.ErrTrunc
	}
	equals := upTo(text, from, '=')
	place := placeOf(text[from:equals], next)
	if place == nowhere {
		return part{}, from, api.ErrForm
	}
	if equals == len(text) {
		return part{}, equals, api.ErrTrunc
	}
	begin := equals + 1
	end := upTo(text, begin, ',')
	n, at, e := quant.Parse(text[begin:end], isMilli(place))
	if e != api.OK {
		return part{}, begin + at, e
	}
	if n == 0 { // a row's text leaves noughts out
		return part{}, from, api.ErrForm
	}
	return part{place, n, end}, 0, api.OK
}

// upTo answers where the next such byte stands, or the end, if there is none.
func upTo(text string, from int, sign byte) int {
	i := strings.IndexByte(text[from:], sign)
	if i < 0 {
		return len(text)
	}
	return from + i
}

// placeOf answers which place has the name, if it is next, or behind it.
func placeOf(name string, next int) int {
	for place := next; place < api.Kinds; place++ {
		if names[place] == name {
			return place
		}
	}
	return nowhere
}

// Print writes a row.
func Print(v api.Vec) (string, api.Errno) {
	if e := Check(v); e != api.OK {
		return "", e
	}
	var parts []string
	for place, n := range v {
		if n == 0 {
			continue
		}
		quantity, e := quant.Print(n, isMilli(place))
		if e != api.OK {
			return "", e
		}
		parts = append(parts, names[place]+"="+quantity)
	}
	return strings.Join(parts, ","), api.OK
}

// isMilli tells whether the quantity at a place is one of thousandths.
func isMilli(place int) bool {
	return place == api.Cpu
}
