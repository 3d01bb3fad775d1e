package sturm_test

import (
	"math/big"
	"math/rand"
	"slices"
	"strconv"
	"strings"
	"testing"

	"abacist/api"
)

// fractions are the coefficients of a polynomial; its methods find results
// without the functions that are tested.
type fractions []*big.Rat

func number(t *testing.T, text string) *big.Rat {
	t.Helper()
	x, ok := new(big.Rat).SetString(text)
	if !ok {
		t.Fatalf("%q is not a number", text)
	}
	return x
}

func read(t *testing.T, text string) fractions {
	t.Helper()
	var p fractions
	for _, c := range from(text)[0] {
		p = append(p, number(t, c))
	}
	return p
}

func (p fractions) String() string {
	var texts []string
	for _, c := range p {
		texts = append(texts, c.RatString())
	}
	return strings.Join(texts, " ")
}

func (p fractions) trim() fractions {
	for len(p) > 0 && p[len(p)-1].Sign() == 0 {
		p = p[:len(p)-1]
	}
	return p
}

// addAt adds q times a factor, as many places to the right as shift says.
func (p fractions) addAt(shift int, q fractions, factor *big.Rat) fractions {
	sum := slices.Clone(p)
	for i, c := range q {
		for len(sum) <= shift+i {
			sum = append(sum, new(big.Rat))
		}
		term := new(big.Rat).Mul(c, factor)
		sum[shift+i] = term.Add(term, sum[shift+i])
	}
	return sum
}

func (p fractions) mul(q fractions) fractions {
	var product fractions
	for i, c := range p {
		product = product.addAt(i, q, c)
	}
	return product
}

func (p fractions) rest(q fractions) fractions {
	for len(p) >= len(q) {
		factor := new(big.Rat).Quo(p[len(p)-1], q[len(q)-1])
		p = p.addAt(len(p)-len(q), q, factor.Neg(factor)).trim()
	}
	return p
}

func (p fractions) slope() fractions {
	var slope fractions
	for i, c := range p {
		if i > 0 {
			slope = append(slope, new(big.Rat).Mul(c, big.NewRat(int64(i), 1)))
		}
	}
	return slope
}

// chain returns the Sturm chain of p, which is not 0, as text.
func (p fractions) chain() string {
	texts := []string{p.String()}
	for q := p.slope(); len(q) > 0; {
		texts = append(texts, q.String())
		p, q = q, fractions{}.addAt(0, p.rest(q), big.NewRat(-1, 1))
	}
	return strings.Join(texts, "|")
}

// random returns a polynomial whose numerators and denominators are less than
// size; the leading coefficient is not 0.
func random(source *rand.Rand, coefficients int, size *big.Int) fractions {
	p := make(fractions, coefficients)
	for i := range p {
		top, bottom := new(big.Int).Rand(source, size), new(big.Int).Rand(source, size)
		if source.Intn(2) > 0 {
			top.Neg(top)
		}
		p[i] = new(big.Rat).SetFrac(top, bottom.Add(bottom, big.NewInt(1)))
	}
	if p[coefficients-1].Sign() == 0 {
		p[coefficients-1] = big.NewRat(-1, 1)
	}
	return p
}

// TestRandomChains has small coefficients, many of which are 0, and longer
// ones, and polynomials with multiple roots.
func TestRandomChains(t *testing.T) {
	source := rand.New(rand.NewSource(32))
	for _, c := range []struct {
		bits   uint
		chains int
	}{{1, 2000}, {2, 500}, {20, 100}, {160, 20}} {
		size := new(big.Int).Lsh(big.NewInt(1), c.bits)
		for range c.chains {
			p := random(source, 1+source.Intn(api.MaxCoeffs), size)
			expectChain(t, p.String(), p.chain())
		}
	}
	for range 500 {
		size := big.NewInt(1 + source.Int63n(4))
		p := random(source, 1+source.Intn(3), size)
		p = p.mul(p).mul(random(source, 1+source.Intn(5), size))
		expectChain(t, p.String(), p.chain())
	}
}

// TestLongestChain has coefficients of the greatest length, without a common
// denominator.
func TestLongestChain(t *testing.T) {
	nines := strings.Repeat("9", api.MaxDigits-5)
	var texts []string
	for i := range api.MaxCoeffs {
		texts = append(texts, "1/"+nines+strconv.Itoa(100+i))
	}
	p := strings.Join(texts, " ")
	expectChain(t, p, read(t, p).chain())
	// By Descartes' rule, there are no positive roots.
	expectCount(t, p, "-1/"+nines, greatest, 0)
	expectCount(t, p, "-"+greatest[1:], greatest, 0)
}
