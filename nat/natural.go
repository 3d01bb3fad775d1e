package nat

import (
	"math/bits"
	"slices"

	"abacist/api"
)

// Natural is a natural number of any size, without the limit of Check: the
// functions of other packages have intermediate results that exceed it. Its
// elements are digits to the base 2^32, the least one first, so every slice is
// a number; nil is 0. The methods accept leading zeros, return none, and
// return new memory.
type Natural []uint32

const (
	limbBits = 32

	// The decimal digits that are converted in one step, and 10 to that power,
	// the greatest one that fits a limb.
	chunkDigits = 9
	chunkScale  = 1000000000
)

// Of returns n as a natural number.
func Of(n uint64) Natural {
	return Natural{uint32(n), uint32(n >> limbBits)}.trim()
}

// Parse reads a natural number with any number of digits; ErrForm if it is none.
func Parse(a string) (Natural, error) {
	if !isNatural(a) {
		return nil, api.ErrForm
	}
	x := make(Natural, 0, len(a)/chunkDigits+1)
	for len(a) > 0 {
		n := min(len(a), chunkDigits)
		chunk, scale := uint64(0), uint64(1)
		for i := range n {
			chunk = chunk*10 + uint64(a[i]-'0')
			scale *= 10
		}
		x = x.grow(scale, chunk)
		a = a[n:]
	}
	return x, nil
}

func isNatural(a string) bool {
	if a == "" || a[0] == '0' && a != "0" {
		return false
	}
	for i := range len(a) {
		if a[i] < '0' || a[i] > '9' {
			return false
		}
	}
	return true
}

// grow multiplies x by scale and adds more, in the memory of x if it suffices.
func (x Natural) grow(scale, more uint64) Natural {
	carry := more
	for i, limb := range x {
		carry += uint64(limb) * scale
		x[i] = uint32(carry)
		carry >>= limbBits
	}
	if carry > 0 {
		x = append(x, uint32(carry))
	}
	return x
}

// String writes x in decimal.
func (x Natural) String() string {
	rest := slices.Clone(x.trim())
	if len(rest) == 0 {
		return "0"
	}
	var digits []byte
	for len(rest) > 0 {
		chunk := rest.shrink(chunkScale)
		for range chunkDigits {
			digits = append(digits, '0'+byte(chunk%10))
			chunk /= 10
		}
		rest = rest.trim()
	}
	for digits[len(digits)-1] == '0' {
		digits = digits[:len(digits)-1]
	}
	slices.Reverse(digits)
	return string(digits)
}

// shrink divides x by d, which is not 0, in the memory of x, and returns the
// remainder.
func (x Natural) shrink(d uint32) uint32 {
	var rest uint64
	for i := len(x) - 1; i >= 0; i-- {
		part := rest<<limbBits | uint64(x[i])
		x[i] = uint32(part / uint64(d))
		rest = part % uint64(d)
	}
	return uint32(rest)
}

// trim returns x, in the same memory, without leading zeros.
func (x Natural) trim() Natural {
	n := len(x)
	for n > 0 && x[n-1] == 0 {
		n--
	}
	return x[:n]
}

// Less reports whether x is less than y.
func (x Natural) Less(y Natural) bool {
	x, y = x.trim(), y.trim()
	if len(x) != len(y) {
		return len(x) < len(y)
	}
	for i := len(x) - 1; i >= 0; i-- {
		if x[i] != y[i] {
			return x[i] < y[i]
		}
	}
	return false
}

// Add returns the sum.
func (x Natural) Add(y Natural) Natural {
	if len(x) < len(y) {
		x, y = y, x
	}
	sum := make(Natural, len(x)+1)
	var carry uint64
	for i, limb := range x {
		carry += uint64(limb)
		if i < len(y) {
			carry += uint64(y[i])
		}
		sum[i] = uint32(carry)
		carry >>= limbBits
	}
	sum[len(x)] = uint32(carry)
	return sum.trim()
}

// Sub returns the difference; ErrRange if it would be negative.
func (x Natural) Sub(y Natural) (Natural, error) {
	x, y = x.trim(), y.trim()
	if x.Less(y) {
		return nil, api.ErrRange
	}
	diff := make(Natural, len(x))
	var borrow uint64
	for i, limb := range x {
		t := uint64(limb) - borrow
		if i < len(y) {
			t -= uint64(y[i])
		}
		diff[i] = uint32(t)
		borrow = t >> 63
	}
	return diff.trim(), nil
}

// Mul returns the product.
func (x Natural) Mul(y Natural) Natural {
	product := make(Natural, len(x)+len(y))
	for i, a := range x {
		var carry uint64
		for j, b := range y {
			carry += uint64(a)*uint64(b) + uint64(product[i+j])
			product[i+j] = uint32(carry)
			carry >>= limbBits
		}
		product[i+len(y)] = uint32(carry)
	}
	return product.trim()
}

// Div returns the quotient, rounded down, and the remainder; ErrZero if y is 0.
func (x Natural) Div(y Natural) (Natural, Natural, error) {
	x, y = x.trim(), y.trim()
	if len(y) == 0 {
		return nil, nil, api.ErrZero
	}
	if x.Less(y) {
		return nil, slices.Clone(x), nil
	}
	if len(y) == 1 {
		quotient := slices.Clone(x)
		rest := Natural{quotient.shrink(y[0])}
		return quotient.trim(), rest.trim(), nil
	}
	quotient, rest := x.divLong(y)
	return quotient, rest, nil
}

// divLong is Knuth's algorithm D, for a y of at least two limbs that is not
// greater than x. Both are first doubled until the leading bit of y is set,
// which makes the guesses good enough.
func (x Natural) divLong(y Natural) (Natural, Natural) {
	shift := bits.LeadingZeros32(y[len(y)-1])
	u, v := x.double(shift), y.double(shift)[:len(y)]
	quotient := make(Natural, len(x)-len(y)+1)
	for i := len(quotient) - 1; i >= 0; i-- {
		quotient[i] = u[i : i+len(v)+1].takeOff(v)
	}
	return quotient.trim(), u[:len(v)].halve(shift).trim()
}

// double returns x times 2^shift, with one limb more than x.
func (x Natural) double(shift int) Natural {
	out := make(Natural, len(x)+1)
	var carry uint64
	for i, limb := range x {
		carry |= uint64(limb) << shift
		out[i] = uint32(carry)
		carry >>= limbBits
	}
	out[len(x)] = uint32(carry)
	return out
}

// halve returns x divided by 2^shift, rounded down, with as many limbs as x.
func (x Natural) halve(shift int) Natural {
	out := make(Natural, len(x))
	var above uint64
	for i := len(x) - 1; i >= 0; i-- {
		above = above<<limbBits | uint64(x[i])
		out[i] = uint32(above >> shift)
	}
	return out
}

// takeOff leaves the remainder of x by y in the memory of x and returns the
// quotient, which is one limb; x has one limb more than y.
func (x Natural) takeOff(y Natural) uint32 {
	q := x.guess(y)
	if x.subTimes(y, q) {
		q--
		x.addBack(y)
	}
	return uint32(q)
}

// guess divides the first three limbs of x by the first two of y: that is the
// quotient of x and y, or 1 more.
func (x Natural) guess(y Natural) uint64 {
	n := len(y)
	top := uint64(x[n])<<limbBits | uint64(x[n-1])
	first, second := uint64(y[n-1]), uint64(y[n-2])
	q, rest := top/first, top%first
	for q>>limbBits > 0 || q*second > rest<<limbBits|uint64(x[n-2]) {
		q--
		rest += first
		if rest>>limbBits > 0 {
			break
		}
	}
	return q
}

// subTimes subtracts q times y from x, in the memory of x, and reports whether
// the result was negative.
func (x Natural) subTimes(y Natural, q uint64) bool {
	n := len(y)
	var carry uint64
	for i, limb := range y {
		carry += q * uint64(limb)
		t := uint64(x[i]) - carry&(1<<limbBits-1)
		x[i] = uint32(t)
		carry = carry>>limbBits + t>>63
	}
	t := uint64(x[n]) - carry
	x[n] = uint32(t)
	return t>>63 > 0
}

// addBack adds y to x, in the memory of x, without the carry out of it.
func (x Natural) addBack(y Natural) {
	n := len(y)
	var carry uint64
	for i, limb := range y {
		carry += uint64(x[i]) + uint64(limb)
		x[i] = uint32(carry)
		carry >>= limbBits
	}
	x[n] += uint32(carry)
}
