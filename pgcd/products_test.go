package pgcd_test

import (
	"math/big"
	"math/rand"
	"slices"
	"strconv"
	"strings"
	"testing"

	"abacist/api"
	"abacist/pgcd"
)

// fractions are the coefficients of a polynomial; its methods find results
// without the functions that are tested.
type fractions []*big.Rat

func read(t *testing.T, text string) fractions {
	t.Helper()
	var p fractions
	for _, c := range from(text)[0] {
		x, ok := new(big.Rat).SetString(c)
		if !ok {
			t.Fatalf("%q is not a number", c)
		}
		p = append(p, x)
	}
	return p
}

func (p fractions) String() string {
	var texts []string
	for _, c := range p {
		texts = append(texts, c.RatString())
	}
	return strings.Join(texts, " ")
}

func (p fractions) trim() fractions {
	for len(p) > 0 && p[len(p)-1].Sign() == 0 {
		p = p[:len(p)-1]
	}
	return p
}

func (p fractions) times(x *big.Rat) fractions {
	var product fractions
	for _, c := range p {
		product = append(product, new(big.Rat).Mul(c, x))
	}
	return product
}

func (p fractions) monic() fractions {
	if len(p) == 0 {
		return nil
	}
	return p.times(new(big.Rat).Inv(p[len(p)-1]))
}

// addAt adds q, as many places to the right as shift says.
func (p fractions) addAt(shift int, q fractions) fractions {
	sum := slices.Clone(p)
	for i, c := range q {
		for len(sum) <= shift+i {
			sum = append(sum, new(big.Rat))
		}
		sum[shift+i] = new(big.Rat).Add(sum[shift+i], c)
	}
	return sum
}

func (p fractions) mul(q fractions) fractions {
	var product fractions
	for i, c := range p {
		product = product.addAt(i, q.times(c))
	}
	return product
}

func (p fractions) power(n int) fractions {
	product := fractions{big.NewRat(1, 1)}
	for range n {
		product = product.mul(p)
	}
	return product
}

// gcd is the Euclidean algorithm with monic remainders.
func (p fractions) gcd(q fractions) fractions {
	p, q = p.monic(), q.monic()
	for len(q) > 0 {
		for len(p) >= len(q) {
			p = p.addAt(len(p)-len(q), q.times(new(big.Rat).Neg(p[len(p)-1]))).trim()
		}
		p, q = q, p.monic()
	}
	return p
}

// product is a product of powers of irreducible polynomials, of which it has
// the exponents.
type product []int

// bases are monic and irreducible.
func bases(t *testing.T) []fractions {
	t.Helper()
	return []fractions{
		read(t, "0 1"), read(t, "-1 1"), read(t, "1/2 1"), read(t, "1 0 1"), read(t, "-2 0 1"), read(t, "1/3 -2 0 1"),
	}
}

// products has all products with at most as many coefficients as there may be.
func products(bases []fractions) []product {
	list := []product{{}}
	for range bases {
		var longer []product
		for _, e := range list {
			for n := 0; e.with(n).degree(bases) < api.MaxCoeffs; n++ {
				longer = append(longer, e.with(n))
			}
		}
		list = longer
	}
	return list
}

func (e product) with(exponent int) product {
	return append(slices.Clone(e), exponent)
}

func (e product) degree(bases []fractions) int {
	degree := 0
	for i, n := range e {
		degree += n * (len(bases[i]) - 1)
	}
	return degree
}

// multiply returns the product with each exponent changed in this way.
func (e product) multiply(bases []fractions, change func(i, n int) int) fractions {
	p := fractions{big.NewRat(1, 1)}
	for i, n := range e {
		p = p.mul(bases[i].power(change(i, n)))
	}
	return p
}

func same(_, n int) int { return n }

func (e product) yun(bases []fractions) string {
	if e.degree(bases) == 0 {
		return "none"
	}
	var texts []string
	for times := 1; times <= slices.Max(e); times++ {
		factor := e.multiply(bases, func(_, n int) int {
			if n == times {
				return 1
			}
			return 0
		})
		texts = append(texts, factor.String())
	}
	return strings.Join(texts, "|")
}

// TestProducts has all products of powers, times some number.
func TestProducts(t *testing.T) {
	bases := bases(t)
	numbers := []*big.Rat{big.NewRat(1, 1), big.NewRat(-3, 7), big.NewRat(12, 1), big.NewRat(-1, 10)}
	for i, e := range products(bases) {
		p := e.multiply(bases, same)
		free := e.multiply(bases, func(_, n int) int { return min(n, 1) })
		expectAll(t, p.times(numbers[i%len(numbers)]).String(), p.String(), free.String(), e.yun(bases))
	}
}

func TestGcdOfProducts(t *testing.T) {
	bases := bases(t)[1:5]
	number := big.NewRat(-9, 4)
	list := products(bases)
	for _, e := range list {
		p := e.multiply(bases, same).times(number).String()
		for i := 0; i < len(list); i += 5 {
			q := list[i].multiply(bases, same)
			common := e.multiply(bases, func(j, n int) int { return min(n, list[i][j]) })
			expectGcd(t, p, q.String(), common.String())
		}
	}
}

// random returns a polynomial whose numerators and denominators are less than
// size.
func random(source *rand.Rand, coefficients int, size *big.Int) fractions {
	p := make(fractions, coefficients)
	for i := range p {
		top, bottom := new(big.Int).Rand(source, size), new(big.Int).Rand(source, size)
		if source.Intn(2) > 0 {
			top.Neg(top)
		}
		p[i] = new(big.Rat).SetFrac(top, bottom.Add(bottom, big.NewInt(1)))
	}
	return p.trim()
}

// TestRandomPairs has small coefficients, many of which are 0, and others that
// are nearly as long as they may be.
func TestRandomPairs(t *testing.T) {
	source := rand.New(rand.NewSource(28))
	for _, c := range []struct {
		bits  uint
		pairs int
	}{{1, 3000}, {2, 1000}, {18, 100}} {
		for range c.pairs {
			p, q := randomPair(source, c.bits)
			expectGcd(t, p.String(), q.String(), p.gcd(q).String())
		}
	}
}

// randomPair returns two polynomials that have a common divisor.
func randomPair(source *rand.Rand, bits uint) (p, q fractions) {
	size := new(big.Int).Lsh(big.NewInt(1), bits)
	common := random(source, 1+source.Intn(4), size)
	p = common.mul(random(source, 1+source.Intn(6), size))
	q = common.mul(random(source, 1+source.Intn(6), size))
	return p, q
}

// TestLongestPair has coefficients of the greatest length, without a common
// denominator.
func TestLongestPair(t *testing.T) {
	nines := strings.Repeat("9", api.MaxDigits-5)
	var p, q []string
	for i := range api.MaxCoeffs {
		p = append(p, "1/"+nines+strconv.Itoa(100+i))
		q = append(q, "1/"+nines+strconv.Itoa(500-i*i))
	}
	got, err := one(pgcd.Gcd(p, q))
	expect(t, "Gcd", got, err, "1")
	monic := read(t, strings.Join(p, " ")).monic().String()
	expectAll(t, strings.Join(p, " "), monic, monic, monic)
}
