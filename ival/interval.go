package ival

import (
	"slices"

	"abacist/api"
	"abacist/rat"
	"abacist/whole"
)

// interval has a low end that is not greater than the high one. The zero value
// has only 0.
type interval struct{ low, high rat.Number }

// span returns the smallest interval that contains these numbers, of which
// there is at least one.
func span(numbers ...rat.Number) interval {
	return interval{
		slices.MinFunc(numbers, rat.Number.Compare),
		slices.MaxFunc(numbers, rat.Number.Compare),
	}
}

func (i interval) texts() api.Ival {
	return api.Ival{Low: i.low.String(), High: i.high.String()}
}

func (i interval) has(x rat.Number) bool {
	return !x.Less(i.low) && !i.high.Less(x)
}

func (i interval) add(j interval) interval {
	return span(i.low.Add(j.low), i.high.Add(j.high))
}

// mul looks at the products of all ends, since the signs decide which of them
// is the smallest one. No other product is smaller or greater than all of these:
// it only grows, or only falls, while one factor moves between its ends.
func (i interval) mul(j interval) interval {
	return span(
		i.low.Mul(j.low),
		i.low.Mul(j.high),
		i.high.Mul(j.low),
		i.high.Mul(j.high),
	)
}

// div multiplies by the interval of the inverses of j, whose ends are those of
// the ends of j, since j is on one side of 0; ErrZero if it is not.
func (i interval) div(j interval) (interval, error) {
	if j.has(rat.Number{}) {
		return interval{}, api.ErrZero
	}
	// Neither end is 0, so there are quotients.
	one := rat.Whole(whole.Of(1))
	first, _ := one.Div(j.low)
	second, _ := one.Div(j.high)
	return i.mul(span(first, second)), nil
}

func (i interval) hull(j interval) interval {
	return span(i.low, i.high, j.low, j.high)
}
