package privacy_test

import (
	"math"
	"math/rand"
	"slices"
	"testing"

	"wireless/address"
	"wireless/api"
	"wireless/mac"
	"wireless/privacy"
)

const (
	// someKey is a key with many different bits.
	someKey api.Key = 0x0123456789abcdef
	// sameHash and thirdHash are keys whose hashes for the random part 77 are that of the key 5; they were found by trying.
	sameHash  api.Key = 18312596
	thirdHash api.Key = 28826562
	// greatest is the greatest random part of a valid address.
	greatest = 1<<22 - 2
)

// keys are keys around which mistakes are likely, other than 0.
var keys = []api.Key{1, 2, 5, 9, 1 << 24, 1<<32 - 1, 1 << 32, 1 << 48, 1 << 63, 1<<64 - 1, someKey}

// parts are valid random parts around which mistakes are likely.
var parts = []uint32{1, 2, 77, 255, 256, 1 << 16, 1<<21 - 1, 1 << 21, 1<<21 + 1, greatest - 1, greatest}

// times are numbers around which mistakes are likely.
var times = []int{math.MinInt, math.MinInt + 1, -1 << 40, -1001, -1000, -999, -2, -1, 0, 1, 2, 3, 999, 1000, 1001, 1999, 2000, 2500, 1<<32 - 1, 1 << 32, api.MaxTime - 1, api.MaxTime, math.MaxInt - 1, math.MaxInt}

func TestP9_1MakeExamples(t *testing.T) {
	for _, c := range []struct {
		irk   api.Key
		prand uint32
		bits  uint64
		e     api.Errno
	}{
		{5, 77, 0x40004d0c0b2f, api.OK}, {5, 1, 0x400001916baf, api.OK}, {5, 4194302, 0x7ffffe8579df, api.OK}, {1, 77, 0x40004df025ca, api.OK}, {1 << 63, 77, 0x40004ddf9a86, api.OK}, {1 << 32, 4194302, 0x7ffffef35b05, api.OK},
		{someKey, 1, 0x400001e42feb, api.OK}, {someKey, 2800862, 0x6abcde1db202, api.OK}, {someKey, 4194302, 0x7ffffef3b48d, api.OK}, {1<<64 - 1, 1, 0x400001e4aa2c, api.OK}, {1<<64 - 1, 2097152, 0x600000334a11, api.OK},
		{0, 5, 0, api.ErrKey}, {0, 0, 0, api.ErrKey}, {0, 4194303, 0, api.ErrKey}, {0, math.MaxUint32, 0, api.ErrKey},
		{5, 0, 0, api.ErrRange}, {5, 4194303, 0, api.ErrRange}, {5, 4194304, 0, api.ErrRange}, {5, 4194304 + 77, 0, api.ErrRange}, {5, 1 << 31, 0, api.ErrRange}, {5, math.MaxUint32, 0, api.ErrRange}, {1<<64 - 1, 0, 0, api.ErrRange},
	} {
		want := api.Address{}
		if c.e == api.OK {
			want = api.Address{Kind: api.AddrResolvable, Bits: c.bits}
		}
		if got, e := privacy.Make(c.irk, c.prand); e != c.e || got != want {
			t.Errorf("Make(%x, %d) = %x, %v, want %x, %v", c.irk, c.prand, got, e, want, c.e)
		}
	}
}

func TestP9_1MakeFollowsTheDefinition(t *testing.T) {
	random := rand.New(rand.NewSource(1))
	for _, irk := range withRandomKeys(random, 50) {
		for _, prand := range withRandomParts(random, 50) {
			got, e := privacy.Make(irk, prand)
			if want := made(irk, prand); e != api.OK || got != want || address.Check(got) != api.OK {
				t.Fatalf("Make(%x, %d) = %x, %v, want %x", irk, prand, got, e, want)
			}
			if got.Bits>>24 != 1<<22+uint64(prand) {
				t.Fatalf("Make(%x, %d) = %x: the random part is wrong", irk, prand, got)
			}
		}
	}
}

func TestP9_2ResolvesExamples(t *testing.T) {
	for _, c := range []struct {
		irk  api.Key
		kind int
		bits uint64
		want bool
	}{
		{5, api.AddrResolvable, 0x40004d0c0b2f, true}, {5, api.AddrResolvable, 0x7ffffe8579df, true}, {someKey, api.AddrResolvable, 0x6abcde1db202, true}, {sameHash, api.AddrResolvable, 0x40004d0c0b2f, true}, {thirdHash, api.AddrResolvable, 0x40004d0c0b2f, true},
		{6, api.AddrResolvable, 0x40004d0c0b2f, false}, {5, api.AddrResolvable, 0x40004d0c0b2e, false}, {5, api.AddrResolvable, 0x40004d8c0b2f, false}, {5, api.AddrResolvable, 0x40004e0c0b2f, false}, {5, api.AddrResolvable, 0x60004d0c0b2f, false}, {someKey, api.AddrResolvable, 0x40004d0c0b2f, false},
		{5, api.AddrPublic, 0x40004d0c0b2f, false}, {5, api.AddrStatic, 0x40004d0c0b2f, false}, {5, api.AddrAnonymous, 0x40004d0c0b2f, false}, {5, api.AddrNone, 0x40004d0c0b2f, false}, {5, 259, 0x40004d0c0b2f, false}, {5, -1, 0x40004d0c0b2f, false},
		{5, api.AddrResolvable, 0xc0004d0c0b2f, false}, {5, api.AddrResolvable, 0x00004d0c0b2f, false}, {5, api.AddrResolvable, 0x80004d0c0b2f, false}, {5, api.AddrResolvable, 1<<48 + 0x40004d0c0b2f, false}, {5, api.AddrResolvable, 1<<63 + 0x40004d0c0b2f, false},
		{0, api.AddrNone, 0, false}, {0, api.AddrResolvable, 0, false}, {5, api.AddrNone, 0, false},
	} {
		if got := privacy.Resolves(c.irk, api.Address{Kind: c.kind, Bits: c.bits}); got != c.want {
			t.Errorf("Resolves(%x, %d, %x) = %t", c.irk, c.kind, c.bits, got)
		}
	}
}

func TestP9_2TheKeyZeroResolvesNothing(t *testing.T) {
	if want := (api.Address{Kind: api.AddrResolvable, Bits: 0x40004d695de3}); made(0, 77) != want {
		t.Fatalf("the hash of the key 0 is not that of %x", want)
	}
	for _, prand := range parts {
		if a := made(0, prand); privacy.Resolves(0, a) {
			t.Errorf("the key 0 resolves %x", a)
		}
	}
}

func TestP9_2InvalidRandomPartsAreNotResolved(t *testing.T) {
	for _, irk := range keys {
		for _, prand := range []uint32{0, greatest + 1} {
			if a := made(irk, prand); privacy.Resolves(irk, a) {
				t.Errorf("%x resolves %x, which is not valid", irk, a)
			}
		}
	}
}

func TestP9_2ResolvesComparesTheWholeHash(t *testing.T) {
	for _, irk := range keys {
		for _, prand := range parts {
			a := made(irk, prand)
			if !privacy.Resolves(irk, a) {
				t.Fatalf("%x does not resolve %x", irk, a)
			}
			for bit := range 24 {
				if changed := (api.Address{Kind: a.Kind, Bits: a.Bits ^ 1<<bit}); privacy.Resolves(irk, changed) {
					t.Fatalf("%x resolves %x, whose hash is that of %x but for the bit %d", irk, changed, a, bit)
				}
			}
		}
	}
}

func TestP9_2ResolvesFollowsTheDefinition(t *testing.T) {
	random := rand.New(rand.NewSource(2))
	all := someAddresses(random)
	for _, irk := range append([]api.Key{0}, keys...) {
		for _, a := range all {
			if got, want := privacy.Resolves(irk, a), resolves(irk, a); got != want {
				t.Fatalf("Resolves(%x, %x) = %t", irk, a, got)
			}
		}
	}
}

func TestP9_3FindExamples(t *testing.T) {
	public, static := api.Address{Kind: api.AddrPublic, Bits: 5}, api.Address{Kind: api.AddrStatic, Bits: 0xc00000000001}
	anonymous, invalid := api.Address{Kind: api.AddrAnonymous, Bits: 1}, api.Address{Kind: api.AddrStatic, Bits: 1}
	list := []api.Identity{{Address: public, IRK: 6}, {Address: static, IRK: 5}, {Address: anonymous}, {Address: static, IRK: 7}, {Address: public, IRK: 5}, {Address: made(8, 9)}, {Address: made(5, 3)}, {Address: invalid, IRK: 10}, {}, {Address: made(5, greatest+1)}}
	for _, c := range []struct {
		list []api.Identity
		a    api.Address
		want int
	}{
		{list, public, 0}, {list, static, 1}, {list[2:], static, 1}, {list, anonymous, 2}, {list[1:], public, 3},
		{list, made(6, 77), 0}, {list, made(5, 77), 1}, {list, made(7, 77), 3}, {list[2:], made(5, 77), 2}, {list, made(10, 77), 7},
		{list, made(8, 9), 5}, {list, made(8, 10), -1}, {list, made(5, 3), 1}, {list[5:], made(5, 3), 1}, {list[5:], made(5, 4), -1},
		{list, made(0, 77), -1}, {list, made(99, 77), -1}, {list, api.Address{Kind: api.AddrPublic, Bits: 6}, -1}, {list, api.Address{Kind: api.AddrAnonymous, Bits: 5}, -1},
		{list, api.Address{}, -1}, {list, invalid, -1}, {list, made(5, greatest+1), -1}, {list, made(5, 0), -1}, {list, api.Address{Kind: api.AddrPublic, Bits: 1<<48 + 5}, -1}, {list, api.Address{Kind: 257, Bits: 5}, -1},
		{nil, public, -1}, {[]api.Identity{}, made(5, 77), -1}, {nil, api.Address{}, -1}, {[]api.Identity{{}}, api.Address{}, -1}, {list[:1], static, -1}, {list[:1], public, 0},
	} {
		before := slices.Clone(c.list)
		if got := privacy.Find(c.list, c.a); got != c.want {
			t.Errorf("Find(%x, %x) = %d, want %d", c.list, c.a, got, c.want)
		}
		if !slices.Equal(c.list, before) {
			t.Errorf("the list became %x", c.list)
		}
	}
}

func TestP9_3FindFollowsTheDefinition(t *testing.T) {
	random := rand.New(rand.NewSource(3))
	all := someAddresses(random)
	found := 0
	for range 200 {
		list := someIdentities(random, all)
		for _, a := range all {
			got, want := privacy.Find(list, a), find(list, a)
			if got != want {
				t.Fatalf("Find(%x, %x) = %d, want %d", list, a, got, want)
			}
			if got >= 0 {
				found++
			}
		}
	}
	if found < 1000 {
		t.Errorf("only %d addresses were found", found)
	}
}

func TestP9_3FindInALongList(t *testing.T) {
	var list []api.Identity
	for i := range api.MaxEntries {
		list = append(list, api.Identity{Address: api.Address{Kind: api.AddrPublic, Bits: uint64(i)}, IRK: api.Key(1000 + i)})
	}
	for _, i := range []int{0, 1, 500, api.MaxEntries - 1} {
		if got := privacy.Find(list, list[i].Address); got != i {
			t.Errorf("the address of the identity %d is found at %d", i, got)
		}
		if a := made(list[i].IRK, 77); privacy.Find(list, a) != find(list, a) {
			t.Errorf("%x is found at %d", a, privacy.Find(list, a))
		}
	}
}

func TestP9_4EpochExamples(t *testing.T) {
	for _, c := range []struct{ local, period, want int }{
		{2500, 1000, 2}, {2500, 0, 0}, {-1, 1000, 0}, {0, 1000, 0}, {999, 1000, 0}, {1000, 1000, 1}, {1999, 1000, 1}, {2000, 1000, 2}, {5, 1, 5}, {1, 2, 0}, {0, 1, 0},
		{2500, -1, 0}, {2500, -1000, 0}, {-2500, 1000, 0}, {-2500, -1000, 0}, {-2500, 0, 0}, {0, 0, 0}, {-1, -1, 0}, {-1, 1, 0},
		{math.MaxInt, 1, math.MaxInt}, {math.MaxInt, math.MaxInt, 1}, {math.MaxInt - 1, math.MaxInt, 0}, {math.MaxInt, 2, math.MaxInt / 2}, {math.MinInt, -1, 0}, {math.MinInt, math.MinInt, 0}, {math.MaxInt, math.MinInt, 0}, {math.MinInt, 1, 0}, {api.MaxTime, 1000000, 1099511},
	} {
		if got := privacy.Epoch(c.local, c.period); got != c.want {
			t.Errorf("Epoch(%d, %d) = %d, want %d", c.local, c.period, got, c.want)
		}
	}
}

func TestP9_4EpochIsTheGreatestNumberOfWholePeriods(t *testing.T) {
	for _, local := range times {
		for _, period := range times {
			got := privacy.Epoch(local, period)
			if local < 0 || period < 1 {
				if got != 0 {
					t.Errorf("Epoch(%d, %d) = %d", local, period, got)
				}
				continue
			}
			if rest := local - got*period; got < 0 || rest < 0 || rest >= period {
				t.Errorf("Epoch(%d, %d) = %d", local, period, got)
			}
		}
	}
}

func TestP9_5AtExamples(t *testing.T) {
	for _, c := range []struct {
		irk   api.Key
		epoch int
		bits  uint64
	}{
		{5, 0, 0x5c19c741cb0d}, {5, 1, 0x7e41ae5f6a46}, {5, 2, 0x7e1168a7af71}, {5, -1, 0x6ccf768dc453}, {1, 1 << 32, 0x639476ed25c1}, {1 << 63, 1, 0x4fb7598de137}, {1<<64 - 1, 7, 0x4732a75e3fa2},
		{someKey, 0, 0x5d905fae4a19}, {someKey, 3, 0x7b081709ca1a}, {someKey, math.MaxInt, 0x5c50bb7e14e3}, {someKey, math.MinInt, 0x546a94667070},
	} {
		if got, want := privacy.At(c.irk, c.epoch), (api.Address{Kind: api.AddrResolvable, Bits: c.bits}); got != want {
			t.Errorf("At(%x, %d) = %x, want %x", c.irk, c.epoch, got, want)
		}
	}
	for _, epoch := range times {
		if got := privacy.At(0, epoch); got != (api.Address{}) {
			t.Errorf("At(0, %d) = %x", epoch, got)
		}
	}
}

// The epochs were found by trying: their random parts are the least and the greatest one.
func TestP9_5AtReachesTheEdgesOfTheRandomPart(t *testing.T) {
	for epoch, prand := range map[int]uint32{1005549: 1, 2577394: greatest} {
		if got, want := privacy.At(5, epoch), made(5, prand); got != want {
			t.Errorf("At(5, %d) = %x, want %x", epoch, got, want)
		}
	}
}

func TestP9_5AtFollowsTheDefinition(t *testing.T) {
	random := rand.New(rand.NewSource(4))
	for _, irk := range withRandomKeys(random, 50) {
		for _, epoch := range append([]int{random.Int(), -random.Int()}, times...) {
			if got, want := privacy.At(irk, epoch), at(irk, epoch); got != want {
				t.Fatalf("At(%x, %d) = %x, want %x", irk, epoch, got, want)
			}
		}
	}
}

func TestP9_5CurrentExamples(t *testing.T) {
	a := api.Address{Kind: api.AddrPublic, Bits: 9}
	for _, c := range []struct {
		id            api.Identity
		private       bool
		local, period int
		want          api.Address
	}{
		{api.Identity{Address: a}, true, 2500, 1000, a}, {api.Identity{Address: a}, false, 2500, 1000, a}, {api.Identity{Address: a, IRK: 5}, false, 2500, 1000, a},
		{api.Identity{Address: a, IRK: 5}, true, 2500, 1000, at(5, 2)}, {api.Identity{Address: a, IRK: 5}, true, 1999, 1000, at(5, 1)}, {api.Identity{IRK: 5}, true, 1000, 1000, at(5, 1)}, {api.Identity{Address: a, IRK: 5}, true, math.MaxInt, 1, at(5, math.MaxInt)},
		{api.Identity{Address: a, IRK: 5}, true, 2500, 0, at(5, 0)}, {api.Identity{Address: a, IRK: 5}, true, 2500, -1, at(5, 0)}, {api.Identity{Address: a, IRK: 5}, true, -2500, 1000, at(5, 0)}, {api.Identity{Address: a, IRK: 5}, true, math.MinInt, -1, at(5, 0)},
		{api.Identity{}, true, 2500, 1000, api.Address{}}, {api.Identity{}, false, 0, 0, api.Address{}}, {api.Identity{IRK: 5}, false, 2500, 1000, api.Address{}}, {api.Identity{Address: api.Address{Kind: 77, Bits: 1 << 50}}, true, 1, 1, api.Address{Kind: 77, Bits: 1 << 50}},
	} {
		if got := privacy.Current(c.id, c.private, c.local, c.period); got != c.want {
			t.Errorf("Current(%x, %t, %d, %d) = %x, want %x", c.id, c.private, c.local, c.period, got, c.want)
		}
	}
}

func TestP9_5CurrentFollowsTheDefinition(t *testing.T) {
	for _, irk := range []api.Key{0, 1, someKey, 1<<64 - 1} {
		id := api.Identity{Address: api.Address{Kind: api.AddrStatic, Bits: 0xc00000000005}, IRK: irk}
		for _, local := range times {
			for _, period := range times {
				want := id.Address
				if irk != 0 {
					want = at(irk, privacy.Epoch(local, period))
				}
				if got := privacy.Current(id, true, local, period); got != want {
					t.Fatalf("Current(%x, true, %d, %d) = %x, want %x", id, local, period, got, want)
				}
				if got := privacy.Current(id, false, local, period); got != id.Address {
					t.Fatalf("Current(%x, false, %d, %d) = %x", id, local, period, got)
				}
			}
		}
	}
}

func TestP9_6MadeAddressesAreFound(t *testing.T) {
	random := rand.New(rand.NewSource(5))
	all := someAddresses(random)
	for range 3000 {
		list := someIdentities(random, all)
		at := random.Intn(len(list))
		list[at].IRK = keys[random.Intn(len(keys))]
		a, e := privacy.Make(list[at].IRK, 1+uint32(random.Intn(greatest)))
		if got := privacy.Find(list, a); e != api.OK || got < 0 || got > at || got != find(list, a) {
			t.Fatalf("%x, made with the key of the identity %d of %x, is found at %d", a, at, list, got)
		}
	}
}

func TestP9_6AnEarlierIdentityIsFound(t *testing.T) {
	public := api.Address{Kind: api.AddrPublic, Bits: 9}
	a, other := made(5, 77), made(5, 78)
	for _, earlier := range []api.Identity{{Address: a}, {Address: public, IRK: sameHash}, {Address: public, IRK: thirdHash}, {Address: public, IRK: 5}, {Address: a, IRK: 6}} {
		list := []api.Identity{{Address: public, IRK: 6}, earlier, {Address: public, IRK: 5}}
		if got := privacy.Find(list, a); got != 1 {
			t.Errorf("%x is found at %d, and belongs to %x", a, got, earlier)
		}
		if got, want := privacy.Find(list, other), find(list, other); got != want {
			t.Errorf("%x is found at %d, want %d", other, got, want)
		}
	}
}

func TestP9_6CurrentAddressesAreFoundInEveryPeriod(t *testing.T) {
	list := []api.Identity{{Address: api.Address{Kind: api.AddrPublic, Bits: 1}, IRK: 4}, {Address: api.Address{Kind: api.AddrStatic, Bits: 0xc00000000001}}, {Address: api.Address{Kind: api.AddrPublic, Bits: 2}, IRK: someKey}}
	for local := 0; local < 2000000; local += 777 {
		for i, id := range list {
			a := privacy.Current(id, true, local, 1000)
			if got := privacy.Find(list, a); got != i {
				t.Fatalf("%x, the address of the identity %d at %d, is found at %d", a, i, local, got)
			}
			if id.IRK != 0 && privacy.Find([]api.Identity{{Address: id.Address, IRK: 99}, {Address: id.Address}}, a) != -1 {
				t.Fatalf("%x is found with another key", a)
			}
		}
	}
}

func TestP9_7AddressesAreConstantWithinAPeriod(t *testing.T) {
	id := api.Identity{Address: api.Address{Kind: api.AddrPublic, Bits: 1}, IRK: someKey}
	seen := map[api.Address]int{}
	for _, period := range []int{1, 2, 7, 1000} {
		for epoch := range 50 {
			first := privacy.Current(id, true, epoch*period, period)
			for local := epoch * period; local < (epoch+1)*period; local += 1 + period/10 {
				if got := privacy.Current(id, true, local, period); got != first {
					t.Fatalf("at %d, with the period %d, the address is %x and no longer %x", local, period, got, first)
				}
			}
			if last := privacy.Current(id, true, (epoch+1)*period-1, period); last != first {
				t.Fatalf("at the end of the epoch %d, with the period %d, the address is %x and no longer %x", epoch, period, last, first)
			}
			if other, found := seen[first]; found && other != epoch {
				t.Fatalf("the epochs %d and %d have the same address", other, epoch)
			}
			seen[first] = epoch
		}
	}
}

func TestP9_7CurrentAddressesAreValid(t *testing.T) {
	random := rand.New(rand.NewSource(6))
	for _, irk := range withRandomKeys(random, 200) {
		for _, local := range times {
			for _, period := range []int{math.MinInt, -1, 0, 1, 1000, math.MaxInt} {
				a := privacy.Current(api.Identity{IRK: irk}, true, local, period)
				if a.Kind != api.AddrResolvable || address.Check(a) != api.OK || !privacy.Resolves(irk, a) {
					t.Fatalf("the address for the key %x at %d, with the period %d, is %x", irk, local, period, a)
				}
			}
		}
	}
}

// made follows the promise of Make, and does not ask whether the key and the random part are valid.
func made(irk api.Key, prand uint32) api.Address {
	hash := uint64(mac.Derive(irk, "rpa", uint64(prand))) % (1 << 24)
	return api.Address{Kind: api.AddrResolvable, Bits: 1<<46 + uint64(prand)<<24 + hash}
}

// resolves follows the promise of Resolves.
func resolves(irk api.Key, a api.Address) bool {
	return irk != 0 && address.Check(a) == api.OK && a == made(irk, uint32(a.Bits>>24%(1<<22)))
}

// find follows the promise of Find.
func find(list []api.Identity, a api.Address) int {
	for i, id := range list {
		if address.Check(a) == api.OK && (id.Address == a || resolves(id.IRK, a)) {
			return i
		}
	}
	return -1
}

// at follows the promise of At, for a key other than 0.
func at(irk api.Key, epoch int) api.Address {
	return made(irk, uint32(1+uint64(mac.Derive(irk, "epoch", uint64(epoch)))%(1<<22-2)))
}

// someAddresses returns addresses of all kinds, many of them resolvable with one of the keys, and some not valid.
func someAddresses(random *rand.Rand) []api.Address {
	var all []api.Address
	for _, irk := range append([]api.Key{0, sameHash, thirdHash}, keys...) {
		for _, prand := range append([]uint32{0, greatest + 1}, parts...) {
			all = append(all, made(irk, prand))
		}
	}
	for range 100 {
		bits := random.Uint64()
		for kind := api.AddrNone; kind <= api.AddrAnonymous+1; kind++ {
			all = append(all, address.Random(kind, bits), api.Address{Kind: kind, Bits: bits >> 16}, api.Address{Kind: kind, Bits: bits})
		}
	}
	return all
}

// someIdentities returns from one to eight identities with some of the addresses and some of the keys.
func someIdentities(random *rand.Rand, addresses []api.Address) []api.Identity {
	irks := append([]api.Key{0, 0, sameHash, thirdHash}, keys...)
	var list []api.Identity
	for range 1 + random.Intn(8) {
		list = append(list, api.Identity{Address: addresses[random.Intn(len(addresses))], IRK: irks[random.Intn(len(irks))]})
	}
	return list
}

func withRandomKeys(random *rand.Rand, count int) []api.Key {
	all := slices.Clone(keys)
	for range count {
		all = append(all, api.Key(random.Uint64()>>random.Intn(64))|1)
	}
	return all
}

func withRandomParts(random *rand.Rand, count int) []uint32 {
	all := slices.Clone(parts)
	for range count {
		all = append(all, 1+uint32(random.Intn(greatest)))
	}
	return all
}
