package nat

import (
	"math/bits"
	"slices"
)

// wordLimbs is how many limbs make a word, with which the machine computes.
const wordLimbs = 2

// Gcd returns the greatest natural number that divides both; 0 for 0 and 0.
func (x Natural) Gcd(y Natural) Natural {
	a, b := x.trim(), y.trim()
	if a.Less(b) {
		a, b = b, a
	}
	for len(a) > wordLimbs && len(b) > 0 {
		a, b = a.descend(b)
	}
	if len(a) > wordLimbs {
		return slices.Clone(a)
	}
	return Of(gcdOfWords(a.word(0), b.word(0)))
}

func gcdOfWords(a, b uint64) uint64 {
	for b > 0 {
		a, b = b, a%b
	}
	return a
}

// descend returns two successive remainders that the Euclidean algorithm makes
// of x and y, which is not 0 and not greater than x, a number of at least
// wordLimbs limbs. It is Lehmer's way (Knuth, Seminumerical Algorithms, 4.5.2):
// the leading words tell several steps, which then need only one pass over all
// limbs.
func (x Natural) descend(y Natural) (Natural, Natural) {
	place, shift := len(x)-wordLimbs, bits.LeadingZeros32(x[len(x)-1])
	p := pair{a: x.leading(place, shift), b: y.leading(place, shift), ofA: share{1, 0}, ofB: share{0, 1}}
	for p.b > 0 && p.step() {
	}
	switch {
	case p.ofA.y == 0: // no step is certain
		_, rest, _ := x.Div(y) // y is not 0, so there is a remainder
		return y, rest
	case p.odd:
		return difference(y, p.ofA.y, x, p.ofA.x), difference(x, p.ofB.x, y, p.ofB.y)
	}
	return difference(x, p.ofA.x, y, p.ofA.y), difference(y, p.ofB.y, x, p.ofB.x)
}

// leading returns the word from this place on and as many bits as shift says
// of the limb below it.
func (x Natural) leading(place, shift int) uint64 {
	below := uint32(x.word(place-1)) >> (limbBits - shift)
	return x.word(place)<<shift | uint64(below)
}

// word returns the word that starts at this place; limbs that x does not have
// are 0.
func (x Natural) word(place int) uint64 {
	var word uint64
	for i := range wordLimbs {
		if at := place + i; at >= 0 && at < len(x) {
			word |= uint64(x[at]) << (i * limbBits)
		}
	}
	return word
}

// share has the multiples of x and of y whose difference is a remainder.
type share struct{ x, y uint64 }

// pair has the leading words of two successive remainders. After an even number
// of steps, the first is a multiple of x less one of y, and the second a
// multiple of y less one of x; after an odd number, it is the other way round.
type pair struct {
	a, b     uint64
	ofA, ofB share
	odd      bool
}

// step takes one step of the Euclidean algorithm; it reports false, and takes
// none, if the bits below the leading words might make a difference. They change
// a remainder by less than its share of y, as that of x is not greater: so the
// next remainder must be at least its share, and be less than the divisor by at
// least the sum of the shares of both. The square of a share is then at most the
// leading word of x, so that shares fit a limb.
func (p *pair) step() bool {
	quotient, rest := p.a/p.b, p.a%p.b
	ofRest := share{p.ofA.x + quotient*p.ofB.x, p.ofA.y + quotient*p.ofB.y}
	if rest < ofRest.y || p.b-rest < p.ofB.y+ofRest.y {
		return false
	}
	*p = pair{p.b, rest, p.ofB, ofRest, !p.odd}
	return true
}

// difference returns x times m less y times n, which is not negative, for
// factors m and n that fit a limb; neither is longer than the longer of x and y.
func difference(x Natural, m uint64, y Natural, n uint64) Natural {
	out := make(Natural, max(len(x), len(y)))
	var plus, minus, borrow uint64
	for i := range out {
		if i < len(x) {
			plus += m * uint64(x[i])
		}
		if i < len(y) {
			minus += n * uint64(y[i])
		}
		t := plus&(1<<limbBits-1) - minus&(1<<limbBits-1) - borrow
		out[i] = uint32(t)
		borrow = t >> 63
		plus >>= limbBits
		minus >>= limbBits
	}
	return out.trim()
}
