package farey

import (
	"abacist/api"
	"abacist/rat"
	"abacist/whole"
)

// The bytes of a path.
const (
	left  byte = 'L'
	right byte = 'R'
)

// fraction has a denominator that is not negative. It may be 0, in 1/0, the
// bound above all numbers, which is why a bound is no rat.Number.
type fraction struct{ top, bottom whole.Integer }

func fractionOf(x rat.Number) fraction {
	top, bottom := x.Parts()
	return fraction{top, bottom}
}

// String writes a fraction whose denominator is not 0, in lowest terms.
func (f fraction) String() string {
	x, _ := rat.Quotient(f.top, f.bottom)
	return x.String()
}

// mediant returns the sum of the numerators over the sum of the denominators,
// which is not 0 unless both are.
func (f fraction) mediant(g fraction) fraction {
	return fraction{f.top.Add(g.top), f.bottom.Add(g.bottom)}
}

// against returns 1, 0 or -1, as f is greater than, equal to or less than g.
func (f fraction) against(g fraction) int {
	return f.top.Mul(g.bottom).Sub(g.top.Mul(f.bottom)).Sign()
}

// descent returns the root of the tree and a function that goes down a path
// from there: each call takes one byte of it and returns the fraction below.
func descent() (root fraction, step func(side byte) fraction) {
	low := fraction{whole.Of(0), whole.Of(1)}
	high := fraction{whole.Of(1), whole.Of(0)}
	middle := low.mediant(high)
	return middle, func(side byte) fraction {
		if side == left {
			high = middle
		} else {
			low = middle
		}
		middle = low.mediant(high)
		return middle
	}
}

// wayTo returns the path to a fraction that is greater than 0; ErrFull if it is
// longer than a path may be.
func wayTo(target fraction) (string, error) {
	var way []byte
	here, step := descent()
	for {
		order := target.against(here)
		if order == 0 {
			return string(way), nil
		}
		if len(way) == api.MaxBits {
			return "", api.ErrFull
		}
		side := right
		if order < 0 {
			side = left
		}
		way = append(way, side)
		here = step(side)
	}
}
