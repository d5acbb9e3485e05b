package confirm_test

import (
	"math"
	"math/rand"
	"testing"

	"wireless/api"
	"wireless/block"
	"wireless/confirm"
	"wireless/mac"
)

// some is a number with many different bits.
const some uint64 = 0x0123456789abcdef

var (
	none       = api.Address{}
	public     = api.Address{Kind: api.AddrPublic, Bits: 5}
	static     = api.Address{Kind: api.AddrStatic, Bits: 0xc00000000001}
	resolvable = api.Address{Kind: api.AddrResolvable, Bits: 0x400001000005}
	wild       = api.Address{Kind: -1, Bits: math.MaxUint64}
)

// publics are public keys, valid or not, around which mistakes are likely.
var publics = []uint32{0, 1, 2, 7, 49, 1 << 16, 1<<31 - 3, 1<<31 - 2, 1<<31 - 1, 1 << 31, 1<<32 - 1}

// numbers are numbers of 64 bits around which mistakes are likely.
var numbers = []uint64{0, 1, 2, 255, 256, 1<<32 - 1, 1 << 32, 1<<48 - 1, 1 << 48, 1 << 63, 1<<64 - 1, some}

// kinds are kinds of addresses, of which only few are valid.
var kinds = []int{0, 1, 2, 3, 4, 5, -1, -2, 255, 256, 1<<16 - 1, 1 << 16, 1<<16 + 1, 1 << 32, math.MaxInt, math.MinInt}

func TestP10_1DrawExamples(t *testing.T) {
	for _, c := range []struct {
		seed uint64
		i    int
		want uint64
	}{
		{0, 0, 0}, {0, 1, 0x5f53a19ca22f4a83}, {1, 0, 0xb6edfe0ac90ac14d}, {some, 0, 0x99da0abebd672f}, {some, 1, 0xb6d6bb1d1beb7c31},
		{some, -1, 0xa4262ed8182aa4bd}, {1<<64 - 1, math.MaxInt, 0x459190ad2da30430}, {5, math.MinInt, 0xa6ef43ffe8a1398d}, {1 << 63, 1 << 32, 0x334d84ab1f585e76},
	} {
		if got := confirm.Draw(c.seed, c.i); got != c.want {
			t.Errorf("Draw(%x, %d) = %x, want %x", c.seed, c.i, got, c.want)
		}
	}
}

func TestP10_1DrawFollowsTheDefinition(t *testing.T) {
	random := rand.New(rand.NewSource(1))
	for _, seed := range withRandom(random, 50) {
		for _, i := range withRandom(random, 50) {
			if got, want := confirm.Draw(seed, int(i)), block.Mix(api.Key(seed), i); got != want {
				t.Fatalf("Draw(%x, %d) = %x, want %x", seed, int(i), got, want)
			}
		}
	}
}

func TestP10_2CommitExamples(t *testing.T) {
	for _, c := range []struct {
		u, v  uint32
		nonce uint64
		z     byte
		want  uint64
	}{
		{0, 0, 0, 0, 0x2d76de05b4273085}, {1, 0, 0, 0, 0x6c4e957c49e28c35}, {0, 1, 0, 0, 0x32022e96f37934e3}, {9, 9, 4, 0, 0x925e3cdc43d1c230},
		{7, 49, 5, 128, 0x7a3ccb1098e84ce1}, {7, 49, 5, 129, 0x9e0b387ebcea3369}, {49, 7, 5, 128, 0x7493ee6063d515aa},
		{1<<32 - 1, 1<<32 - 1, 1<<64 - 1, 255, 0xc98d5bf990ce249d}, {2147483646, 3, some, 1, 0x65b55ef3bcacc646},
	} {
		if got := confirm.Commit(c.u, c.v, c.nonce, c.z); got != c.want {
			t.Errorf("Commit(%d, %d, %x, %d) = %x, want %x", c.u, c.v, c.nonce, c.z, got, c.want)
		}
	}
}

func TestP10_2CommitFollowsTheDefinition(t *testing.T) {
	for _, u := range publics {
		for _, v := range publics {
			for _, nonce := range numbers {
				for z := range 256 {
					want := block.Mix(mac.Derive(pair(u, v), "commit", uint64(z)), nonce)
					if got := confirm.Commit(u, v, nonce, byte(z)); got != want {
						t.Fatalf("Commit(%d, %d, %x, %d) = %x, want %x", u, v, nonce, z, got, want)
					}
				}
			}
		}
	}
}

func TestP10_2OOBExamples(t *testing.T) {
	for _, c := range []struct {
		u             uint32
		random, value uint64
	}{
		{9, 4, 0x925e3cdc43d1c230}, {9, 4, confirm.Commit(9, 9, 4, 0)}, {0, 0, 0x2d76de05b4273085}, {1<<32 - 1, 1<<64 - 1, confirm.Commit(1<<32-1, 1<<32-1, 1<<64-1, 0)},
	} {
		if got, want := confirm.OOB(c.u, c.random), (api.OOBData{Value: c.value, Random: c.random}); got != want {
			t.Errorf("OOB(%d, %x) = %x, want %x", c.u, c.random, got, want)
		}
	}
}

func TestP10_2OOBIsACommitment(t *testing.T) {
	random := rand.New(rand.NewSource(2))
	for _, u := range append([]uint32{random.Uint32(), random.Uint32()}, publics...) {
		for _, r := range withRandom(random, 50) {
			want := api.OOBData{Value: block.Mix(mac.Derive(pair(u, u), "commit", 0), r), Random: r}
			if got := confirm.OOB(u, r); got != want {
				t.Fatalf("OOB(%d, %x) = %x, want %x", u, r, got, want)
			}
		}
	}
}

// The last four nonces were found by trying: their numbers are the least and the greatest one.
func TestP10_3DigitsExamples(t *testing.T) {
	for _, c := range []struct {
		u, v   uint32
		na, nb uint64
		want   int
	}{
		{0, 0, 0, 0, 75412}, {1, 0, 0, 0, 796378}, {0, 1, 0, 0, 134300}, {7, 49, 5, 6, 935324}, {7, 49, 6, 5, 401849}, {49, 7, 5, 6, 489900},
		{1<<32 - 1, 1<<32 - 1, 1<<64 - 1, 1<<64 - 1, 287167}, {2147483646, 3, some, 1, 225190},
		{7, 49, 2520789, 0, 0}, {7, 49, 212023, 0, 999999}, {7, 49, 313680, 0, 999999}, {7, 49, 1373557, 0, 999999},
	} {
		if got := confirm.Digits(c.u, c.v, c.na, c.nb); got != c.want {
			t.Errorf("Digits(%d, %d, %x, %x) = %d, want %d", c.u, c.v, c.na, c.nb, got, c.want)
		}
	}
}

func TestP10_3DigitsFollowsTheDefinition(t *testing.T) {
	for _, u := range publics {
		for _, v := range publics {
			for _, na := range numbers {
				for _, nb := range numbers {
					want := int(mac.Derive(pair(u, v), "digits", na, nb) % 1000000)
					if got := confirm.Digits(u, v, na, nb); got != want || got < 0 || got > 999999 {
						t.Fatalf("Digits(%d, %d, %x, %x) = %d, want %d", u, v, na, nb, got, want)
					}
				}
			}
		}
	}
}

func TestP10_4LongTermExamples(t *testing.T) {
	for _, c := range []struct {
		shared uint32
		na, nb uint64
		a, b   api.Address
		want   api.Key
	}{
		{0, 0, 0, none, none, 0x28d337310ba44e62}, {1, 0, 0, none, none, 0x89c3dbdd9e1bb9cb}, {117649, 5, 6, public, static, 0x25e5e10640d57d1d}, {117649, 6, 5, public, static, 0x7a649a85e496c5d6}, {117649, 5, 6, static, public, 0x420a103bb89b6d2a},
		{1<<32 - 1, 1<<64 - 1, some, resolvable, public, 0x71544b09c8ef4039}, {3, some, 1, wild, none, 0x3e546c9a3d5f7eb7}, {3, some, 1, none, wild, 0x4fe8ca165ed7ebf4},
	} {
		if got := confirm.LongTerm(c.shared, c.na, c.nb, c.a, c.b); got != c.want {
			t.Errorf("LongTerm(%d, %x, %x, %x, %x) = %x, want %x", c.shared, c.na, c.nb, c.a, c.b, got, c.want)
		}
	}
}

func TestP10_4LongTermFollowsTheDefinition(t *testing.T) {
	random := rand.New(rand.NewSource(3))
	for _, a := range someAddresses() {
		for _, b := range someAddresses() {
			shared, na, nb := publics[random.Intn(len(publics))], numbers[random.Intn(len(numbers))], random.Uint64()
			want := mac.Derive(api.Key(shared), "ltk", na, nb, number(a), number(b))
			if got := confirm.LongTerm(shared, na, nb, a, b); got != want {
				t.Fatalf("LongTerm(%d, %x, %x, %x, %x) = %x, want %x", shared, na, nb, a, b, got, want)
			}
		}
	}
}

func TestP10_4NumbersOfAddresses(t *testing.T) {
	for _, c := range []struct {
		a    api.Address
		want uint64
	}{
		{none, 0}, {public, 1<<48 + 5}, {static, 0x2c00000000001}, {resolvable, 0x3400001000005}, {api.Address{Kind: 0, Bits: 1<<48 + 5}, 1<<48 + 5}, {api.Address{Kind: 1, Bits: 1 << 48}, 2 << 48},
		{wild, 1<<64 - 1<<48 - 1}, {api.Address{Kind: -1, Bits: 1 << 48}, 0}, {api.Address{Kind: -1, Bits: 1<<48 + 7}, 7}, {api.Address{Kind: 1 << 16}, 0}, {api.Address{Kind: 1<<16 + 1, Bits: 5}, 1<<48 + 5}, {api.Address{Kind: math.MinInt, Bits: 3}, 3}, {api.Address{Kind: math.MaxInt, Bits: 3}, 0xffff000000000003},
	} {
		if got, want := confirm.LongTerm(9, 1, 2, c.a, public), mac.Derive(9, "ltk", 1, 2, c.want, 1<<48+5); got != want {
			t.Errorf("LongTerm with the first address %x = %x, want %x", c.a, got, want)
		}
		if got, want := confirm.LongTerm(9, 1, 2, public, c.a), mac.Derive(9, "ltk", 1, 2, 1<<48+5, c.want); got != want {
			t.Errorf("LongTerm with the second address %x = %x, want %x", c.a, got, want)
		}
		if got, want := confirm.Check(9, 1, 2, api.Features{}, c.a, public), block.Mix(mac.Derive(0, "check", 1, 2, 0, c.want, 1<<48+5), 9); got != want {
			t.Errorf("Check with the first address %x = %x, want %x", c.a, got, want)
		}
		if got, want := confirm.Check(9, 1, 2, api.Features{}, public, c.a), block.Mix(mac.Derive(0, "check", 1, 2, 0, 1<<48+5, c.want), 9); got != want {
			t.Errorf("Check with the second address %x = %x, want %x", c.a, got, want)
		}
	}
}

func TestP10_5CheckExamples(t *testing.T) {
	both := api.Features{IO: api.IOBoth, Bond: true, MITM: true}
	for _, c := range []struct {
		shared uint32
		n, r   uint64
		f      api.Features
		a, b   api.Address
		want   uint64
	}{
		{0, 0, 0, api.Features{}, none, none, 0xd1caa47cc4d2a4ab}, {1, 0, 0, api.Features{}, none, none, 0x2712f200da7f838f},
		{117649, 5, 6, both, public, static, 0x1220940dc502ccb8}, {117649, 6, 5, both, public, static, 0x15fc42c4b20c64f1}, {117649, 5, 6, both, static, public, 0x6d08acab55bfe548},
		{3, 1, 0, api.Features{IO: api.IONone, OOB: true}, resolvable, public, 0x79c33b1b7a92d66b}, {3, 1, 0, api.Features{IO: api.IOYesNo, SendID: true}, resolvable, public, 0x88ea9a2bb6eaab74}, {3, 1, 0, api.Features{IO: api.IOKeyboard, TakeID: true}, resolvable, public, 0xb8bb81a82fb93319},
		{1<<32 - 1, 1<<64 - 1, some, api.Features{IO: -1, OOB: true, Bond: true, MITM: true, SendID: true, TakeID: true}, wild, wild, 0x37724e5f1ec0c06f},
	} {
		if got := confirm.Check(c.shared, c.n, c.r, c.f, c.a, c.b); got != c.want {
			t.Errorf("Check(%d, %x, %x, %v, %x, %x) = %x, want %x", c.shared, c.n, c.r, c.f, c.a, c.b, got, c.want)
		}
	}
}

func TestP10_5CheckFollowsTheDefinition(t *testing.T) {
	random := rand.New(rand.NewSource(4))
	all := someAddresses()
	for _, f := range someFeatures() {
		for range 20 {
			shared, n, r := publics[random.Intn(len(publics))], numbers[random.Intn(len(numbers))], random.Uint64()
			a, b := all[random.Intn(len(all))], all[random.Intn(len(all))]
			want := block.Mix(mac.Derive(0, "check", n, r, features(f), number(a), number(b)), uint64(shared))
			if got := confirm.Check(shared, n, r, f, a, b); got != want {
				t.Fatalf("Check(%d, %x, %x, %v, %x, %x) = %x, want %x", shared, n, r, f, a, b, got, want)
			}
		}
	}
}

func TestP10_5NumbersOfFeatures(t *testing.T) {
	for _, c := range []struct {
		f    api.Features
		want uint64
	}{
		{api.Features{}, 0}, {api.Features{IO: api.IOBoth, Bond: true, MITM: true}, 4 + 6<<32}, {api.Features{IO: 7}, 7},
		{api.Features{OOB: true}, 1 << 32}, {api.Features{Bond: true}, 2 << 32}, {api.Features{MITM: true}, 4 << 32}, {api.Features{SendID: true}, 8 << 32}, {api.Features{TakeID: true}, 16 << 32},
		{api.Features{IO: -1}, 1<<32 - 1}, {api.Features{IO: -1, OOB: true, Bond: true, MITM: true, SendID: true, TakeID: true}, 1<<37 - 1}, {api.Features{IO: 1 << 32}, 0}, {api.Features{IO: 1<<32 + 3, Bond: true}, 3 + 2<<32}, {api.Features{IO: math.MinInt, OOB: true}, 1 << 32}, {api.Features{IO: math.MaxInt}, 1<<32 - 1}, {api.Features{IO: 1 << 31}, 1 << 31},
	} {
		want := block.Mix(mac.Derive(0, "check", 1, 2, c.want, 1<<48+5, 0x2c00000000001), 3)
		if got := confirm.Check(3, 1, 2, c.f, public, static); got != want {
			t.Errorf("Check with the features %v = %x, want %x", c.f, got, want)
		}
	}
}

func TestP10_6DifferentNoncesHaveDifferentCommitments(t *testing.T) {
	random := rand.New(rand.NewSource(5))
	for _, u := range publics {
		for _, z := range []byte{0, 1, 128, 129, 255} {
			v := publics[random.Intn(len(publics))]
			commitments := map[uint64]uint64{}
			for _, nonce := range withNear(random, 100) {
				c := confirm.Commit(u, v, nonce, z)
				if other, found := commitments[c]; found && other != nonce {
					t.Fatalf("%x and %x have the same commitment %x for %d, %d and %d", other, nonce, c, u, v, z)
				}
				commitments[c] = nonce
				if got := block.Unmix(mac.Derive(pair(u, v), "commit", uint64(z)), c); got != nonce {
					t.Fatalf("the commitment to %x is one to %x", nonce, got)
				}
			}
		}
	}
}

func TestP10_6DifferentSecretsHaveDifferentCheckValues(t *testing.T) {
	random := rand.New(rand.NewSource(6))
	for _, f := range someFeatures() {
		n, r := random.Uint64(), random.Uint64()
		checks := map[uint64]uint32{}
		for _, shared := range withNear(random, 20) {
			c := confirm.Check(uint32(shared), n, r, f, public, static)
			if other, found := checks[c]; found && other != uint32(shared) {
				t.Fatalf("%d and %d have the same check value %x", other, uint32(shared), c)
			}
			checks[c] = uint32(shared)
		}
	}
}

func TestP10_6DifferentIndicesHaveDifferentRandomNumbers(t *testing.T) {
	random := rand.New(rand.NewSource(7))
	for _, seed := range numbers {
		drawn := map[uint64]int{}
		for _, i := range withNear(random, 1000) {
			n := confirm.Draw(seed, int(i))
			if other, found := drawn[n]; found && other != int(i) {
				t.Fatalf("%d and %d have the same random number %x of the seed %x", other, int(i), n, seed)
			}
			drawn[n] = int(i)
			if got := block.Unmix(api.Key(seed), n); got != i {
				t.Fatalf("the random number %d of the seed %x is that of %d", int(i), seed, int(got))
			}
		}
	}
}

// pair returns the pair of two public keys.
func pair(u, v uint32) api.Key {
	return api.Key(u)*(1<<32) + api.Key(v)
}

// number returns the number of an address.
func number(a api.Address) uint64 {
	return uint64(a.Kind)*(1<<48) + a.Bits
}

// features returns the number of features.
func features(f api.Features) uint64 {
	sum := uint64(0)
	if f.OOB {
		sum += 1
	}
	if f.Bond {
		sum += 2
	}
	if f.MITM {
		sum += 4
	}
	if f.SendID {
		sum += 8
	}
	if f.TakeID {
		sum += 16
	}
	return uint64(f.IO)%(1<<32) + sum*(1<<32)
}

// someAddresses returns addresses, valid or not.
func someAddresses() []api.Address {
	all := []api.Address{none, public, static, resolvable, wild}
	for _, kind := range kinds {
		for _, bits := range numbers {
			all = append(all, api.Address{Kind: kind, Bits: bits})
		}
	}
	return all
}

// someFeatures returns features with all flags, for capabilities that are valid and others that are not.
func someFeatures() []api.Features {
	var all []api.Features
	for _, io := range []int{api.IODisplay, api.IOYesNo, api.IOKeyboard, api.IONone, api.IOBoth, 5, 255, 1<<32 - 1, 1 << 32, 1<<32 + 1, 31 << 32, -1, -1 << 32, math.MaxInt, math.MinInt} {
		for flags := range 32 {
			all = append(all, api.Features{IO: io, OOB: flags&1 != 0, Bond: flags&2 != 0, MITM: flags&4 != 0, SendID: flags&8 != 0, TakeID: flags&16 != 0})
		}
	}
	return all
}

// withRandom returns numbers and as many random ones as count says.
func withRandom(random *rand.Rand, count int) []uint64 {
	all := append([]uint64{}, numbers...)
	for range count {
		all = append(all, random.Uint64()>>random.Intn(64))
	}
	return all
}

// withNear returns random numbers, with those that differ from them in one bit.
func withNear(random *rand.Rand, count int) []uint64 {
	var all []uint64
	for _, n := range withRandom(random, count) {
		all = append(all, n)
		for bit := range 64 {
			all = append(all, n^1<<bit)
		}
	}
	return all
}
