package quant

import "drayage/api"

// Add sums, checked.
func Add(l ...int) (int, api.Errno) {
	if e := check(l...); e != api.OK {
		return 0, e
	}
	sum := 0
	for _, n := range l {
		sum += n
		if sum > api.MaxQty { // at once: a long list would go beyond an int
			return 0, api.ErrOver
		}
	}
	return sum, api.OK
}

// Sub takes b off a, checked.
func Sub(a, b int) (int, api.Errno) {
	if b > a {
		return 0, api.ErrArg
	}
	if e := check(a, b); e != api.OK {
		return 0, e
	}
	return a - b, api.OK
}

// Mul multiplies, checked.
func Mul(a, b int) (int, api.Errno) {
	if e := check(a, b); e != api.OK {
		return 0, e
	}
	// Divided rather than multiplied: the product might go beyond an int.
	if a != 0 && b > api.MaxQty/a {
		return 0, api.ErrOver
	}
	return a * b, api.OK
}

// Share answers how many thousandths of the whole the part is, rounded down.
func Share(part, whole int) (int, api.Errno) {
	if whole == 0 && part != 0 {
		return 0, api.ErrArg
	}
	if e := check(part, whole); e != api.OK {
		return 0, e
	}
	if whole == 0 {
		return 0, api.OK
	}
	return part * thousand / whole, api.OK
}

// check looks for one below 0 ahead of one that is too great, wherever they stand: the document names the errors in that order.
func check(l ...int) api.Errno {
	for _, n := range l {
		if n < 0 {
			return api.ErrArg
		}
	}
	for _, n := range l {
		if n > api.MaxQty {
			return api.ErrOver
		}
	}
	return api.OK
}
