package sturm

import (
	"abacist/pgcd"
	"abacist/poly"
	"abacist/rat"
)

// The functions and methods of this file are for polynomials with any number of
// coefficients of any size, without the limits of poly.Check. They accept
// leading coefficients that are 0, return none, and return new memory.

// ChainOf returns p, its derivative and the remainders with inverted signs; the
// empty list for the zero polynomial.
func ChainOf(p poly.Polynomial) []poly.Polynomial {
	return chain(p.Add(nil), func(link poly.Polynomial) poly.Polynomial { return link })
}

// ChangesOf returns how many of the numbers have another sign than the one
// before, zeros aside.
func ChangesOf(numbers []rat.Number) int {
	changes, last := 0, 0
	for _, x := range numbers {
		sign := x.Sign()
		if sign == 0 {
			continue
		}
		if last == -sign {
			changes++
		}
		last = sign
	}
	return changes
}

// Counter counts the roots of a polynomial. It is the Sturm chain of another
// one, which has each of these roots once: at a root that is there several
// times, all polynomials of the chain would be 0. Each is multiplied by a number
// greater than 0 that makes its coefficients integers: signs are all that
// counts, and the integers are shorter.
type Counter []poly.Polynomial

// CounterOf returns the counter of the roots of p, which is not the zero
// polynomial.
func CounterOf(p poly.Polynomial) Counter {
	return chain(pgcd.FreeOf(p), poly.Polynomial.Primitive)
}

// Between returns the number of different roots that are greater than a and at
// most b; a is not greater than b.
func (c Counter) Between(a, b rat.Number) int {
	return c.changes(a) - c.changes(b)
}

func (c Counter) changes(x rat.Number) int {
	values := make([]rat.Number, len(c))
	for i, link := range c {
		values[i] = link.Eval(x)
	}
	return ChangesOf(values)
}

// chain returns the Sturm chain of p, each polynomial of which is scaled, by a
// positive number, before it is used for the next one.
func chain(p poly.Polynomial, scaled func(poly.Polynomial) poly.Polynomial) []poly.Polynomial {
	var links []poly.Polynomial
	link, next := scaled(p), scaled(p.Deriv())
	for len(link) > 0 {
		links = append(links, link)
		link, next = next, scaled(inverted(link, next))
	}
	return links
}

// inverted returns the remainder of p by q with all signs inverted; the zero
// polynomial if q is the zero polynomial, with which the chain has ended.
func inverted(p, q poly.Polynomial) poly.Polynomial {
	_, rest, err := p.Div(q)
	if err != nil {
		return nil
	}
	for i, c := range rest {
		rest[i] = c.Neg()
	}
	return rest
}
