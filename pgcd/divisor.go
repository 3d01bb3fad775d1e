package pgcd

import "abacist/poly"

// The functions of this file are those of pgcd.go for polynomials with any
// number of coefficients of any size, without the limits of poly.Check. They
// accept leading coefficients that are 0, return none, and return new memory.

// MonicOf returns p divided by its leading coefficient; the zero polynomial for
// the zero polynomial.
func MonicOf(p poly.Polynomial) poly.Polynomial {
	// The sum with nothing is new memory, without leading coefficients 0.
	monic := p.Add(nil)
	if len(monic) == 0 {
		return nil
	}
	lead := monic[len(monic)-1]
	for i, c := range monic {
		// The divisor is not 0, so there is a quotient.
		monic[i], _ = c.Div(lead)
	}
	return monic
}

// GcdOf returns the monic polynomial of the highest degree that divides both;
// the zero polynomial if both are zero.
func GcdOf(p, q poly.Polynomial) poly.Polynomial {
	return MonicOf(cleared(p).gcd(cleared(q)).polynomial())
}

// FreeOf returns the monic polynomial that has each root of p once; the zero
// polynomial for the zero polynomial.
func FreeOf(p poly.Polynomial) poly.Polynomial {
	monic := MonicOf(p)
	// A root of p is one of the derivative too, once less.
	return without(monic, GcdOf(monic, monic.Deriv()))
}

// YunOf returns the square-free factorization of p: at index i, the monic
// polynomial whose roots are those that p has i + 1 times. It takes each root
// away once, over and over; those that are gone then make the next factor.
func YunOf(p poly.Polynomial) []poly.Polynomial {
	var factors []poly.Polynomial
	roots := FreeOf(p)
	for len(roots) > 1 {
		p = without(p, roots)
		left := FreeOf(p)
		factors = append(factors, without(roots, left))
		roots = left
	}
	return factors
}

// without returns p divided by q, which divides it; the zero polynomial if q is
// the zero polynomial, as p is then too.
func without(p, q poly.Polynomial) poly.Polynomial {
	quotient, _, err := p.Div(q)
	if err != nil {
		return nil
	}
	return quotient
}
