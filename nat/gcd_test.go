package nat_test

import (
	"math/big"
	"math/rand"
	"testing"

	"abacist/nat"
)

// expectGcd wants the greatest common divisor of these numbers, in each order.
func expectGcd(t *testing.T, x, y *big.Int) {
	t.Helper()
	a, b := parse(t, x.String()), parse(t, y.String())
	want := new(big.Int).GCD(nil, nil, x, y).String()
	for _, got := range []nat.Natural{a.Gcd(b), b.Gcd(a)} {
		if got.String() != want {
			t.Errorf("Gcd of %v and %v = %v, want %s", x, y, got, want)
		}
	}
}

// TestGcdOfLimbs has limbs that are as small or as great as they may be.
func TestGcdOfLimbs(t *testing.T) {
	source := rand.New(rand.NewSource(3))
	number := func() *big.Int {
		x := new(big.Int)
		for range source.Intn(8) {
			limbs := []uint32{0, 1, 2, 1 << 31, 1<<32 - 2, 1<<32 - 1, source.Uint32(), source.Uint32()}
			limb := limbs[source.Intn(len(limbs))]
			x.Add(x.Lsh(x, 32), big.NewInt(int64(limb)))
		}
		return x
	}
	for range 20000 {
		expectGcd(t, number(), number())
	}
	// The numbers differ in their last bits only, or are the same.
	for range 3000 {
		x := number()
		expectGcd(t, x, new(big.Int).Add(x, big.NewInt(source.Int63n(4))))
	}
}

// TestGcdOfQuotients has numbers for which the Euclidean algorithm meets these
// quotients, again and again: 1 takes the most steps.
func TestGcdOfQuotients(t *testing.T) {
	power := func(n uint) *big.Int { return new(big.Int).Lsh(big.NewInt(1), n) }
	for _, quotients := range [][]*big.Int{
		{big.NewInt(1)},
		{big.NewInt(2)},
		{big.NewInt(1), power(16)},
		{big.NewInt(1), big.NewInt(1), big.NewInt(1), power(31)},
		{power(32), big.NewInt(3)},
		{power(33), big.NewInt(1), big.NewInt(2)},
		{power(64), big.NewInt(1)},
		{big.NewInt(1), power(200), big.NewInt(5), power(63)},
	} {
		for _, common := range []*big.Int{big.NewInt(1), big.NewInt(2), power(32), power(70)} {
			x, y := new(big.Int), common
			for i := 0; y.BitLen() < 1500; i++ {
				expectGcd(t, x, y)
				next := new(big.Int).Mul(quotients[i%len(quotients)], y)
				x, y = y, next.Add(next, x)
			}
		}
	}
}
