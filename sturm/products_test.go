package sturm_test

import (
	"math/big"
	"math/rand"
	"testing"

	"abacist/api"
)

// root compares a root with a number: 1, 0 or -1, as the root is greater than,
// equal to or less than x.
type root func(x *big.Rat) int

// factor is a polynomial and all its real roots.
type factor struct {
	p     fractions
	roots []root
}

func rational(top, bottom int64) root {
	return func(x *big.Rat) int { return big.NewRat(top, bottom).Cmp(x) }
}

// squareRoot is the positive one.
func squareRoot(c int64) root {
	return func(x *big.Rat) int {
		if x.Sign() < 0 {
			return 1
		}
		return big.NewRat(c, 1).Cmp(new(big.Rat).Mul(x, x))
	}
}

func cubeRoot(c int64) root {
	return func(x *big.Rat) int {
		square := new(big.Rat).Mul(x, x)
		return big.NewRat(c, 1).Cmp(square.Mul(square, x))
	}
}

func minus(r root) root {
	return func(x *big.Rat) int { return -r(new(big.Rat).Neg(x)) }
}

// factors have no common roots.
func factors(t *testing.T) []factor {
	t.Helper()
	return []factor{
		{read(t, "0 1"), []root{rational(0, 1)}},
		{read(t, "1 -1"), []root{rational(1, 1)}},
		{read(t, "1/3 2/3"), []root{rational(-1, 2)}},
		{read(t, "-2 0 1"), []root{squareRoot(2), minus(squareRoot(2))}},
		{read(t, "1 0 1"), nil},
		{read(t, "2 0 0 -1"), []root{cubeRoot(2)}},
	}
}

// ends are rational roots, numbers close to other roots, and some more.
func ends() []string {
	return []string{
		"-3", "-1414213563/1000000000", "-1414213561/1000000000", "-1", "-1/2", "-499/1000", "-1/1000000", "0",
		"1/3", "999999/1000000", "1", "5/4", "1259921049/1000000000", "1259921051/1000000000",
		"1414213561/1000000000", "1414213563/1000000000", "100",
	}
}

// product is a polynomial and all its different real roots.
type product struct {
	p     fractions
	roots []root
}

// products has all products of powers of the factors with at most as many
// coefficients as there may be.
func products(t *testing.T) []product {
	t.Helper()
	list := []product{{p: read(t, "-2/3")}}
	for _, f := range factors(t) {
		var longer []product
		for _, q := range list {
			longer = append(longer, q)
			roots := append(append([]root{}, q.roots...), f.roots...)
			for p := q.p.mul(f.p); len(p) <= api.MaxCoeffs; p = p.mul(f.p) {
				longer = append(longer, product{p, roots})
			}
		}
		list = longer
	}
	return list
}

// between counts the roots that are greater than a and at most b.
func (q product) between(a, b *big.Rat) int {
	count := 0
	for _, r := range q.roots {
		if r(a) > 0 && r(b) <= 0 {
			count++
		}
	}
	return count
}

// TestProducts has several ends, of all, for each of the products.
func TestProducts(t *testing.T) {
	source := rand.New(rand.NewSource(33))
	texts := ends()
	for _, q := range products(t) {
		for range 12 {
			i := source.Intn(len(texts))
			a, b := texts[i], texts[i+source.Intn(len(texts)-i)]
			expectCount(t, q.p.String(), a, b, q.between(number(t, a), number(t, b)))
		}
		expectCount(t, q.p.String(), texts[0], texts[len(texts)-1], len(q.roots))
		expectChain(t, q.p.String(), q.p.chain())
	}
}
