package pgcd

import (
	"math/rand"
	"testing"

	"abacist/whole"
)

// TestRemaindersStayShort has polynomials without a common divisor, of which
// gcd returns the resultant: a determinant of 50 rows, as vectors of a length
// less than 51, which has at most 86 digits and perhaps a sign. Without each of
// the divisions, it is longer.
func TestRemaindersStayShort(t *testing.T) {
	source := rand.New(rand.NewSource(14))
	random := func(degree int) integral {
		p := make(integral, degree+1)
		for i := range p {
			p[i] = whole.Of(1 + source.Intn(9))
		}
		return p
	}
	for range 10 {
		common := random(30).gcd(random(20))
		if len(common) != 1 || len(common[0].String()) > 87 {
			t.Errorf("the greatest common divisor is %v", common)
		}
	}
}
