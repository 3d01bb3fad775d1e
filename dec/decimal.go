package dec

import (
	"strings"

	"abacist/rat"
	"abacist/whole"
)

// decimal is units divided by 10 to the power of digits.
type decimal struct {
	units  whole.Integer
	digits int
}

// around returns the greatest decimal that is not greater than x, and the
// smallest one that is not less. They are equal if x is a decimal itself.
func around(x rat.Number, digits int) (low, high decimal) {
	top, bottom := x.Parts()
	// A denominator is not 0, so there is a quotient, and the remainder is not
	// negative, so the quotient is rounded down whatever the sign is.
	units, rest, _ := top.Mul(powerOfTen(digits)).Div(bottom)
	low = decimal{units, digits}
	if rest.Sign() == 0 {
		return low, low
	}
	return low, decimal{units.Add(whole.Of(1)), digits}
}

// nearest returns the decimal that is nearest to x; of two, the one whose last
// digit is even.
func nearest(x rat.Number, digits int) decimal {
	low, high := around(x, digits)
	twice, sum := x.Add(x), low.number().Add(high.number())
	switch {
	case twice.Less(sum):
		return low
	case sum.Less(twice):
		return high
	case low.isEven():
		return low
	}
	return high
}

// isEven looks at all of the units: they are even if their last digit is.
func (d decimal) isEven() bool {
	// The divisor is not 0, so there is a remainder.
	_, rest, _ := d.units.Div(whole.Of(2))
	return rest.Sign() == 0
}

func (d decimal) number() rat.Number {
	// No power of ten is 0, so there is a quotient.
	x, _ := rat.Quotient(d.units, powerOfTen(d.digits))
	return x
}

// String writes all the digits after the point. The sign is that of the units,
// so that a number that is rounded to 0 has none.
func (d decimal) String() string {
	text, negative := strings.CutPrefix(d.units.String(), "-")
	if d.digits > 0 {
		text = withPoint(text, d.digits)
	}
	if negative {
		return "-" + text
	}
	return text
}

// withPoint puts a point before the last digits of a text, and zeros before it
// as far as no digit of the integer part would be left.
func withPoint(text string, digits int) string {
	zeros := max(0, digits+1-len(text))
	text = strings.Repeat("0", zeros) + text
	point := len(text) - digits
	return text[:point] + "." + text[point:]
}

func powerOfTen(exponent int) whole.Integer {
	power := whole.Of(1)
	for range exponent {
		power = power.Mul(whole.Of(10))
	}
	return power
}
