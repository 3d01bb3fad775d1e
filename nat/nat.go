// Package nat has whole numbers from 0 on.
package nat

import "abacist/api"

// Check tells what is wrong with a natural.
func Check(a string) error {
	_, err := read(a)
	return err
}

// Add tells both together.
func Add(a, b string) (string, error) {
	var sum string
	err := withBoth(a, b, func(x, y Natural) error {
		sum = x.Add(y).String()
		return nil
	})
	return sum, err
}

// Sub tells one less the other.
func Sub(a, b string) (string, error) {
	var rest string
	err := withBoth(a, b, func(x, y Natural) error {
		d, err := x.Sub(y)
		if err != nil {
			return err
		}
		rest = d.String()
		return nil
	})
	return rest, err
}

// Mul tells both, times.
func Mul(a, b string) (string, error) {
	var product string
	err := withBoth(a, b, func(x, y Natural) error {
		product = x.Mul(y).String()
		return nil
	})
	return product, err
}

// Div tells how often one goes into the other, and what is left.
func Div(a, b string) (string, string, error) {
	var quotient, rest string
	err := withBoth(a, b, func(x, y Natural) error {
		q, r, err := x.Div(y)
		if err != nil {
			return err
		}
		quotient, rest = q.String(), r.String()
		return nil
	})
	return quotient, rest, err
}

// Less tells if one is less.
func Less(a, b string) (bool, error) {
	var less bool
	err := withBoth(a, b, func(x, y Natural) error {
		less = x.Less(y)
		return nil
	})
	return less, err
}

// withBoth hands both arguments to work only if neither has an error, so that
// the errors of work come after those of Check.
func withBoth(a, b string, work func(x, y Natural) error) error {
	x, err := read(a)
	if err != nil {
		return err
	}
	y, err := read(b)
	if err != nil {
		return err
	}
	return work(x, y)
}

// read looks at the length first: too many bytes are ErrFull, whatever they are.
func read(a string) (Natural, error) {
	if len(a) > api.MaxDigits {
		return nil, api.ErrFull
	}
	return Parse(a)
}
