package pgcd

import (
	"slices"

	"abacist/poly"
	"abacist/rat"
	"abacist/whole"
)

// integral is a polynomial with integers as coefficients, the constant one
// first; the last one is not 0, and nil is the zero polynomial. Greatest common
// divisors are found with integers, as the Euclidean algorithm with fractions
// spends its time on bringing long ones to lowest terms.
type integral []whole.Integer

// cleared returns p times some number that leaves no denominators.
func cleared(p poly.Polynomial) integral {
	primitive := p.Primitive()
	multiples := make(integral, len(primitive))
	for i, c := range primitive {
		multiples[i], _ = c.Parts()
	}
	return multiples
}

// divided returns a divided by b, which is not 0 and divides it.
func divided(a, b whole.Integer) whole.Integer {
	q, _, _ := a.Div(b)
	return q
}

// polynomial returns p with rational numbers as coefficients.
func (p integral) polynomial() poly.Polynomial {
	f := make(poly.Polynomial, len(p))
	for i, c := range p {
		f[i] = rat.Whole(c)
	}
	return f
}

// trim returns p, in the same memory, without leading coefficients that are 0.
func (p integral) trim() integral {
	n := len(p)
	for n > 0 && p[n-1].Sign() == 0 {
		n--
	}
	return p[:n]
}

// gcd returns the greatest common divisor of both, times some number; the zero
// polynomial if both are zero. Its remainders are the subresultants (Knuth,
// Seminumerical Algorithms, algorithm C of 4.6.1): it is known beforehand by
// what their coefficients can be divided, and this keeps them short.
func (p integral) gcd(q integral) integral {
	if len(p) < len(q) {
		return q.gcd(p)
	}
	lead, scale := whole.Of(1), whole.Of(1)
	for len(q) > 0 {
		gap := len(p) - len(q)
		rest := p.remainder(q).over(lead.Mul(power(scale, gap)))
		p, q = q, rest
		lead = p[len(p)-1]
		if gap > 0 {
			scale = divided(power(lead, gap), power(scale, gap-1))
		}
	}
	return p
}

// remainder returns the remainder of p by q, times the leading coefficient of q
// for each step of the division, which leaves it without fractions; q is not
// the zero polynomial.
func (p integral) remainder(q integral) integral {
	rest := slices.Clone(p)
	lead := q[len(q)-1]
	for len(rest) >= len(q) {
		top := rest[len(rest)-1]
		for i, c := range rest {
			rest[i] = c.Mul(lead)
		}
		shift := len(rest) - len(q)
		for i, c := range q {
			rest[shift+i] = rest[shift+i].Sub(top.Mul(c))
		}
		rest = rest[:len(rest)-1]
	}
	return rest.trim()
}

// over returns p divided by a number that divides all coefficients.
func (p integral) over(divisor whole.Integer) integral {
	out := make(integral, len(p))
	for i, c := range p {
		out[i] = divided(c, divisor)
	}
	return out
}

func power(x whole.Integer, n int) whole.Integer {
	product := whole.Of(1)
	for range n {
		product = product.Mul(x)
	}
	return product
}
