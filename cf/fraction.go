package cf

import (
	"slices"

	"abacist/rat"
	"abacist/whole"
)

// expand returns the continued fraction of x. Its elements are the quotients of
// the Euclidean algorithm: if the division of top by bottom leaves rest, then
// 1/(x - Floor(x)) is bottom/rest.
func expand(x rat.Number) []string {
	top, bottom := x.Parts()
	var list []string
	for bottom.Sign() != 0 {
		// The divisor is not 0, so there is a quotient.
		quotient, rest, _ := top.Div(bottom)
		list = append(list, quotient.String())
		top, bottom = bottom, rest
	}
	return list
}

// collapse returns the number with these elements, all of which but the first
// are greater than 0. It computes with numerator and denominator, since the
// fractions on the way are in lowest terms without being reduced.
func collapse(quotients []whole.Integer) rat.Number {
	top, bottom := whole.Of(1), whole.Of(0)
	for _, q := range slices.Backward(quotients) {
		top, bottom = q.Mul(top).Add(bottom), top
	}
	// The denominator is 1 or has been made of elements greater than 0.
	x, _ := rat.Quotient(top, bottom)
	return x
}

// neighbours returns the greatest number that is not greater than x, and the
// smallest one that is greater, of those with a denominator of at most limit.
// It descends the Stern-Brocot tree: between low and high, no number has a
// smaller denominator than their mediant, so if that is too great, none is left.
func neighbours(x rat.Number, limit whole.Integer) (low, high rat.Number) {
	low = rat.Whole(x.Floor())
	high = low.Add(rat.Whole(whole.Of(1)))
	for {
		middle := mediant(low, high)
		_, bottom := middle.Parts()
		switch {
		case limit.Less(bottom):
			return low, high
		case x.Less(middle):
			high = middle
		default:
			low = middle
		}
	}
}

// mediant returns the sum of the numerators over the sum of the denominators.
func mediant(x, y rat.Number) rat.Number {
	a, b := x.Parts()
	c, d := y.Parts()
	// Denominators are greater than 0, and so is their sum.
	m, _ := rat.Quotient(a.Add(c), b.Add(d))
	return m
}

// nearer returns the one of low and high that is nearer to x, which is from low
// to high; if neither is, the one with the smaller denominator, or else low.
func nearer(x, low, high rat.Number) rat.Number {
	_, below := low.Parts()
	_, above := high.Parts()
	twice, sum := x.Add(x), low.Add(high)
	switch {
	case twice.Less(sum):
		return low
	case sum.Less(twice), above.Less(below):
		return high
	}
	return low
}
