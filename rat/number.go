package rat

import (
	"strings"

	"abacist/api"
	"abacist/whole"
)

// Number is a rational number of any size, without the limit of Check: the
// functions of other packages have intermediate results that exceed it. The
// zero value is 0.
type Number struct {
	top    whole.Integer
	bottom whole.Integer // 0, which no denominator is, stands for 1
}

// Parse reads a number with any number of digits; ErrForm if it is none.
func Parse(a string) (Number, error) {
	before, after, fraction := strings.Cut(a, "/")
	top, err := whole.Parse(before)
	if err != nil {
		return Number{}, err
	}
	if !fraction {
		return Number{top: top}, nil
	}
	bottom, err := whole.Parse(after)
	if err != nil {
		return Number{}, err
	}
	// A numerator that is 0 is no case of its own: each denominator divides it.
	if !moreThanOne(bottom) || moreThanOne(top.Gcd(bottom)) {
		return Number{}, api.ErrForm
	}
	return Number{top, bottom}, nil
}

// Whole returns n as a rational number.
func Whole(n whole.Integer) Number {
	return Number{top: n}
}

// Quotient returns top divided by bottom; ErrZero if bottom is 0.
func Quotient(top, bottom whole.Integer) (Number, error) {
	if bottom.Sign() == 0 {
		return Number{}, api.ErrZero
	}
	return reduced(top, bottom), nil
}

// reduced returns top divided by bottom, which is not 0.
func reduced(top, bottom whole.Integer) Number {
	common := top.Gcd(bottom)
	if bottom.Sign() < 0 {
		// The sign moves to the numerator.
		common = common.Neg()
	}
	// The divisor is not 0, as bottom is not, and nothing remains.
	top, _, _ = top.Div(common)
	bottom, _, _ = bottom.Div(common)
	return Number{top, bottom}
}

// Parts returns the numerator and the denominator, which is greater than 0 and
// has no common divisor with the numerator except 1.
func (x Number) Parts() (top, bottom whole.Integer) {
	if x.bottom.Sign() == 0 {
		return x.top, whole.Of(1)
	}
	return x.top, x.bottom
}

func moreThanOne(x whole.Integer) bool {
	return whole.Of(1).Less(x)
}

// String writes x in decimal, in lowest terms.
func (x Number) String() string {
	if moreThanOne(x.bottom) {
		return x.top.String() + "/" + x.bottom.String()
	}
	return x.top.String()
}

// Sign returns 1, 0 or -1, as x is greater than, equal to or less than 0.
func (x Number) Sign() int {
	return x.top.Sign()
}

// Neg returns x with the other sign.
func (x Number) Neg() Number {
	return Number{x.top.Neg(), x.bottom}
}

// Add returns the sum.
func (x Number) Add(y Number) Number {
	a, b := x.Parts()
	c, d := y.Parts()
	return reduced(a.Mul(d).Add(c.Mul(b)), b.Mul(d))
}

// Sub returns the difference.
func (x Number) Sub(y Number) Number {
	return x.Add(y.Neg())
}

// Mul returns the product.
func (x Number) Mul(y Number) Number {
	a, b := x.Parts()
	c, d := y.Parts()
	return reduced(a.Mul(c), b.Mul(d))
}

// Div returns the quotient; ErrZero if y is 0.
func (x Number) Div(y Number) (Number, error) {
	a, b := x.Parts()
	c, d := y.Parts()
	return Quotient(a.Mul(d), b.Mul(c))
}

// Compare returns -1, 0 or 1, as x is less than, equal to or greater than y.
func (x Number) Compare(y Number) int {
	a, b := x.Parts()
	c, d := y.Parts()
	return a.Mul(d).Sub(c.Mul(b)).Sign()
}

// Less reports whether x is less than y.
func (x Number) Less(y Number) bool {
	return x.Compare(y) < 0
}

// Floor returns the greatest integer that is not greater than x.
func (x Number) Floor() whole.Integer {
	top, bottom := x.Parts()
	// The denominator is greater than 0, so there is a quotient, and the
	// remainder, which is not negative, makes it the greatest such integer.
	floor, _, _ := top.Div(bottom)
	return floor
}
