package quant

import "drayage/api"

// enough is more than any quantity has ahead of the point, m or not: from there on digits make no difference, and are not counted, lest they go beyond an int.
const enough = 1 << 50

// grammar is what a kind of text may have behind its first digits.
type grammar struct {
	places int            // how many digits may stand behind the point
	scales map[string]int // by suffix; 0: one that must go on
}

// reading is what has been read of a text so far.
type reading struct {
	value   int // of all digits, as if there were no point
	begun   bool
	pointed bool
	places  int // digits behind the point
	suffix  string
}

// read answers the number that a text says, as if it had all its places and no point, and the scale of its suffix; or where the text is wrong.
func read(text string, g grammar) (value, scale, at int, e api.Errno) {
	var r reading
	for i, c := range text {
		if !r.take(c, g) {
			return 0, 0, i, api.ErrForm
		}
	}
	scale = g.scales[r.suffix]
	if !r.isNumber() || scale == 0 {
		return 0, 0, len(text), api.ErrTrunc
	}
	for value = r.value; r.places < g.places; r.places++ {
		value *= 10
	}
	return value, scale, 0, api.OK
}

// take goes on by one rune, if it can stand there.
func (r *reading) take(c rune, g grammar) bool {
	switch {
	case '0' <= c && c <= '9':
		return r.takeDigit(int(c-'0'), g.places)
	case c == '.':
		return r.takePoint()
	}
	return r.takeSuffix(c, g.scales)
}

func (r *reading) takeDigit(d, places int) bool {
	if r.suffix != "" {
		return false
	}
	if r.pointed {
		return r.takePlace(d, places)
	}
	if r.begun && r.value == 0 { // a 0 ahead of another digit
		return false
	}
	r.begun = true
	r.value = r.value*10 + d
	if r.value > enough {
		r.value = enough
	}
	return true
}

func (r *reading) takePlace(d, places int) bool {
	if r.places == places {
		return false
	}
	r.places++
	r.value = r.value*10 + d
	return true
}

func (r *reading) takePoint() bool {
	if !r.begun || r.pointed || r.suffix != "" {
		return false
	}
	r.pointed = true
	return true
}

func (r *reading) takeSuffix(c rune, scales map[string]int) bool {
	if !r.isNumber() {
		return false
	}
	longer := r.suffix + string(c)
	if _, is := scales[longer]; !is {
		return false
	}
	r.suffix = longer
	return true
}

// isNumber says whether the digits may end here.
func (r *reading) isNumber() bool {
	return r.begun && (!r.pointed || r.places > 0)
}
