package group_test

import (
	"math/big"
	"math/rand"
	"testing"

	"wireless/api"
	"wireless/group"
)

// numbers are numbers of 32 bits around which mistakes are likely: small ones, and those near the multiples of the prime and of the number of private keys.
var numbers = []uint32{0, 1, 2, 3, 7, 11, 31, 255, 1<<16 - 1, 1 << 16, 1<<30 - 1, 1 << 30, 1<<31 - 4, 1<<31 - 3, 1<<31 - 2, 1<<31 - 1, 1 << 31, 1<<31 + 1, 3 << 30, 1<<32 - 7, 1<<32 - 6, 1<<32 - 5, 1<<32 - 4, 1<<32 - 3, 1<<32 - 2, 1<<32 - 1}

func TestP7_1PowerExamples(t *testing.T) {
	for _, c := range []struct{ base, exp, want uint32 }{
		{7, 0, 1}, {0, 0, 1}, {7, 11, 1977326743}, {7, 12, 956385319}, {2, 31, 1}, {2147483649, 3, 8},
		{7, 1, 7}, {7, 2, 49}, {2, 30, 1 << 30}, {2, 32, 2}, {0, 1, 0}, {0, 1<<32 - 1, 0}, {1, 1<<32 - 1, 1}, {3, 1 << 31, 9},
		{2147483646, 1, 2147483646}, {2147483646, 2, 1}, {2147483646, 3, 2147483646}, {2147483646, 1 << 31, 1},
		{2147483647, 0, 1}, {2147483647, 1, 0}, {2147483647, 5, 0}, {2147483648, 1, 1}, {2147483648, 9, 1}, {4294967294, 0, 1}, {4294967294, 3, 0}, {4294967295, 1, 1}, {4294967295, 1<<32 - 1, 1}, {4294967293, 1, 2147483646},
	} {
		if got := group.Power(c.base, c.exp); got != c.want {
			t.Errorf("Power(%d, %d) = %d, want %d", c.base, c.exp, got, c.want)
		}
	}
}

func TestP7_1PowerFollowsTheDefinition(t *testing.T) {
	tested := withRandom(rand.New(rand.NewSource(1)), 60)
	for _, base := range tested {
		for _, exp := range tested {
			if got, want := group.Power(base, exp), power(base, exp); got != want || got >= api.GroupPrime {
				t.Fatalf("Power(%d, %d) = %d, want %d", base, exp, got, want)
			}
		}
	}
}

func TestP7_1PowerIsARepeatedProduct(t *testing.T) {
	for _, base := range numbers {
		want := uint64(1)
		for exp := range uint32(300) {
			if got := group.Power(base, exp); uint64(got) != want {
				t.Fatalf("Power(%d, %d) = %d, want %d", base, exp, got, want)
			}
			want = want * uint64(base) % 2147483647
		}
	}
}

func TestP7_1PowerUsesEachBitOfTheExponent(t *testing.T) {
	for _, base := range []uint32{2, 3, 7, 1<<31 - 2, 1<<31 + 5, 1<<32 - 3} {
		for bit := range 32 {
			for _, exp := range []uint32{1 << bit, 1<<32 - 1 - 1<<bit, 1<<bit - 1} {
				if got, want := group.Power(base, exp), power(base, exp); got != want {
					t.Errorf("Power(%d, %d) = %d, want %d", base, exp, got, want)
				}
			}
		}
	}
}

func TestP7_1ExponentZero(t *testing.T) {
	for _, base := range withRandom(rand.New(rand.NewSource(2)), 1000) {
		if got := group.Power(base, 0); got != 1 {
			t.Errorf("Power(%d, 0) = %d", base, got)
		}
	}
}

func TestP7_2SecretExamples(t *testing.T) {
	for _, c := range []struct{ n, want uint32 }{
		{0, 1}, {2147483644, 2147483645}, {2147483645, 1}, {1, 2}, {2, 3}, {2147483643, 2147483644}, {2147483646, 2}, {2147483647, 3}, {2147483648, 4}, {4294967289, 2147483645}, {4294967290, 1}, {4294967295, 6},
	} {
		if got := group.Secret(c.n); got != c.want {
			t.Errorf("Secret(%d) = %d, want %d", c.n, got, c.want)
		}
	}
}

func TestP7_2SecretIsAPrivateKey(t *testing.T) {
	for _, n := range withRandom(rand.New(rand.NewSource(3)), 10000) {
		got := group.Secret(n)
		if got < 1 || got > 2147483645 || uint64(got) != 1+uint64(n)%2147483645 {
			t.Errorf("Secret(%d) = %d", n, got)
		}
	}
}

func TestP7_2PublicExamples(t *testing.T) {
	for _, c := range []struct{ secret, want uint32 }{
		{0, 1}, {1, 7}, {2, 49}, {3, 343}, {6, 117649}, {11, 1977326743}, {12, 956385319}, {1<<31 - 2, 1}, {1<<31 - 1, 7}, {1<<31 - 3, 1840700269},
	} {
		if got := group.Public(c.secret); got != c.want {
			t.Errorf("Public(%d) = %d, want %d", c.secret, got, c.want)
		}
	}
}

func TestP7_2PublicIsAPowerOfTheGenerator(t *testing.T) {
	for _, secret := range withRandom(rand.New(rand.NewSource(4)), 2000) {
		if got, want := group.Public(secret), power(7, secret); got != want {
			t.Errorf("Public(%d) = %d, want %d", secret, got, want)
		}
	}
}

func TestP7_2ValidExamples(t *testing.T) {
	for _, c := range []struct {
		public uint32
		want   bool
	}{
		{0, false}, {1, false}, {2, true}, {3, true}, {7, true}, {1 << 30, true}, {2147483644, true}, {2147483645, true}, {2147483646, false}, {2147483647, false}, {2147483648, false}, {2147483649, false}, {2147483650, false}, {4294967292, false}, {4294967294, false}, {4294967295, false},
	} {
		if got := group.Valid(c.public); got != c.want {
			t.Errorf("Valid(%d) = %t", c.public, got)
		}
	}
}

func TestP7_2ValidIsARange(t *testing.T) {
	for _, public := range withRandom(rand.New(rand.NewSource(5)), 10000) {
		if got, want := group.Valid(public), public > 1 && public < 2147483646; got != want {
			t.Errorf("Valid(%d) = %t", public, got)
		}
	}
}

func TestP7_3SharedExamples(t *testing.T) {
	for _, c := range []struct{ secret, public, want uint32 }{
		{3, group.Public(2), 117649}, {2, group.Public(3), 117649}, {3, 49, 117649}, {2, 343, 117649}, {3, 2, 8}, {2, 3, 9}, {31, 2, 1},
		{0, 5, 1}, {0, 0, 1}, {5, 0, 0}, {5, 1, 1}, {5, 2147483646, 2147483646}, {4, 2147483646, 1}, {5, 2147483647, 0}, {3, 2147483649, 8},
	} {
		if got := group.Shared(c.secret, c.public); got != c.want {
			t.Errorf("Shared(%d, %d) = %d, want %d", c.secret, c.public, got, c.want)
		}
	}
}

func TestP7_3SharedIsAPowerOfThePublicKey(t *testing.T) {
	tested := withRandom(rand.New(rand.NewSource(6)), 40)
	for _, secret := range tested {
		for _, public := range tested {
			if got, want := group.Shared(secret, public), power(public, secret); got != want {
				t.Fatalf("Shared(%d, %d) = %d, want %d", secret, public, got, want)
			}
		}
	}
}

func TestP7_4ProductsOfPowers(t *testing.T) {
	tested := withRandom(rand.New(rand.NewSource(7)), 20)
	for _, base := range tested {
		for _, sum := range tested {
			for _, a := range tested {
				if a > sum {
					continue
				}
				b := sum - a
				product := uint64(group.Power(base, a)) * uint64(group.Power(base, b)) % api.GroupPrime
				if got := group.Power(base, sum); uint64(got) != product {
					t.Fatalf("Power(%d, %d) = %d, and the product of those of %d and %d is %d", base, sum, got, a, b, product)
				}
			}
		}
	}
}

func TestP7_4OnlyTheRemainderOfTheBaseMatters(t *testing.T) {
	tested := withRandom(rand.New(rand.NewSource(8)), 60)
	for _, base := range tested {
		for _, exp := range tested {
			want := group.Power(base%api.GroupPrime, exp)
			for other := uint64(base % api.GroupPrime); other < 1<<32; other += api.GroupPrime {
				if got := group.Power(uint32(other), exp); got != want {
					t.Fatalf("Power(%d, %d) = %d, and that of %d is %d", other, exp, got, base%api.GroupPrime, want)
				}
			}
		}
	}
}

func TestP7_5BothSidesAgree(t *testing.T) {
	tested := withRandom(rand.New(rand.NewSource(9)), 60)
	for _, a := range tested {
		for _, b := range tested {
			if one, other := group.Shared(a, group.Public(b)), group.Shared(b, group.Public(a)); one != other {
				t.Fatalf("%d and %d: %d is not %d", a, b, one, other)
			}
		}
	}
}

// withRandom returns numbers and as many random ones as count says.
func withRandom(random *rand.Rand, count int) []uint32 {
	all := append([]uint32{}, numbers...)
	for range count {
		all = append(all, random.Uint32()>>random.Intn(32))
	}
	return all
}

// power follows the promise of Power in mathematical integers.
func power(base, exp uint32) uint32 {
	b, e := big.NewInt(int64(base)), big.NewInt(int64(exp))
	return uint32(b.Exp(b, e, big.NewInt(2147483647)).Uint64())
}
