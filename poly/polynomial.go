package poly

import (
	"slices"

	"abacist/api"
	"abacist/rat"
	"abacist/whole"
)

// Polynomial is a polynomial with any number of coefficients of any size,
// without the limits of Check: the functions of other packages have
// intermediate results that exceed them. Its elements are the coefficients, the
// constant one first; nil is the zero polynomial. The methods accept leading
// coefficients that are 0, return none, and return new memory.
type Polynomial []rat.Number

// Texts writes the coefficients in decimal.
func (p Polynomial) Texts() []string {
	p = p.trim()
	texts := make([]string, len(p))
	for i, c := range p {
		texts[i] = c.String()
	}
	return texts
}

// trim returns p, in the same memory, without leading coefficients that are 0.
func (p Polynomial) trim() Polynomial {
	n := len(p)
	for n > 0 && p[n-1].Sign() == 0 {
		n--
	}
	return p[:n]
}

// Add returns the sum.
func (p Polynomial) Add(q Polynomial) Polynomial {
	if len(p) < len(q) {
		p, q = q, p
	}
	sum := slices.Clone(p)
	for i, c := range q {
		sum[i] = sum[i].Add(c)
	}
	return sum.trim()
}

// Mul returns the product.
func (p Polynomial) Mul(q Polynomial) Polynomial {
	product := make(Polynomial, len(p)+len(q))
	for i, c := range p {
		for j, d := range q {
			product[i+j] = product[i+j].Add(c.Mul(d))
		}
	}
	return product.trim()
}

// Div returns the quotient and the remainder, which has fewer coefficients than
// q; ErrZero if q is the zero polynomial.
func (p Polynomial) Div(q Polynomial) (Polynomial, Polynomial, error) {
	q = q.trim()
	if len(q) == 0 {
		return nil, nil, api.ErrZero
	}
	rest := slices.Clone(p)
	quotient := make(Polynomial, max(len(p)-len(q)+1, 0))
	for i := range slices.Backward(quotient) {
		quotient[i] = rest[i : i+len(q)].takeOff(q)
	}
	return quotient.trim(), rest.trim(), nil
}

// takeOff subtracts from p, in the memory of p, the multiple of q that leaves
// its last coefficient 0, and returns the factor; p has as many coefficients as
// q, whose last one is not 0.
func (p Polynomial) takeOff(q Polynomial) rat.Number {
	last := len(q) - 1
	// The divisor is not 0, so there is a quotient.
	factor, _ := p[last].Div(q[last])
	for i, c := range q {
		p[i] = p[i].Sub(factor.Mul(c))
	}
	return factor
}

// Eval returns the value at x.
func (p Polynomial) Eval(x rat.Number) rat.Number {
	var value rat.Number
	for _, c := range slices.Backward(p) {
		value = value.Mul(x).Add(c)
	}
	return value
}

// Deriv returns the derivative.
func (p Polynomial) Deriv() Polynomial {
	slope := make(Polynomial, len(p))
	for i, c := range p {
		if i > 0 {
			slope[i-1] = c.Mul(rat.Whole(whole.Of(i)))
		}
	}
	return slope.trim()
}

// Shift returns the polynomial whose value at x is that of p at x + a. It is
// the value of p at the polynomial x + a, found as Eval finds that at a number.
func (p Polynomial) Shift(a rat.Number) Polynomial {
	farther := Polynomial{a, rat.Whole(whole.Of(1))}
	var shifted Polynomial
	for _, c := range slices.Backward(p) {
		shifted = shifted.Mul(farther).Add(Polynomial{c})
	}
	return shifted
}

// Primitive returns p times the number greater than 0 that makes the
// coefficients integers without a common divisor; the zero polynomial for the
// zero polynomial.
func (p Polynomial) Primitive() Polynomial {
	common, multiple := whole.Of(0), whole.Of(1)
	for _, c := range p {
		top, bottom := c.Parts()
		common = common.Gcd(top)
		multiple = multiple.Mul(divided(bottom, multiple.Gcd(bottom)))
	}
	primitive := slices.Clone(p.trim())
	for i, c := range primitive {
		top, bottom := c.Parts()
		primitive[i] = rat.Whole(divided(top, common).Mul(divided(multiple, bottom)))
	}
	return primitive
}

// divided returns a divided by b, which is not 0 and divides it.
func divided(a, b whole.Integer) whole.Integer {
	quotient, _, _ := a.Div(b)
	return quotient
}
