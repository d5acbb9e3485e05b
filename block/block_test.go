package block_test

import (
	"math"
	"math/rand"
	"testing"

	"wireless/api"
	"wireless/block"
)

// keys are keys around which mistakes are likely.
var keys = []api.Key{0, 1, 2, 9, 1 << 31, 1<<32 - 1, 1 << 32, 1<<32 + 1, 1 << 63, 1<<63 - 1, 1<<64 - 2, 1<<64 - 1, 0x0123456789abcdef, 0xfedcba9876543210, 0x00000000ffffffff, 0xffffffff00000000}

// halves are numbers of 32 bits around which mistakes are likely.
var halves = []uint32{0, 1, 2, 127, 128, 1 << 16, 1<<24 - 1, 1 << 25, 1 << 31, 1<<31 - 1, 1<<32 - 2, 1<<32 - 1, 0xdeadbeef}

// numbers are numbers of 64 bits around which mistakes are likely.
var numbers = []uint64{0, 1, 2, 5, 255, 256, 1<<31 - 1, 1 << 31, 1<<32 - 1, 1 << 32, 1<<32 + 1, 1 << 62, 1<<63 - 1, 1 << 63, 1<<64 - 2, 1<<64 - 1, 0x0123456789abcdef, 0xffffffff00000000}

// rounds are numbers of rounds, used ones and others.
var rounds = []int{0, 1, 2, 3, 4, 5, 6, 7, 8, 31, 32, 63, 64, 65, 127, 128, 1000, -1, -2, -7, -63, -64, -65, math.MaxInt32, math.MinInt32, math.MaxInt, math.MaxInt - 1, math.MaxInt - 63, math.MinInt, math.MinInt + 1, math.MinInt + 63, math.MaxInt / 11, math.MaxInt/11 + 1, math.MinInt / 11, math.MinInt/11 - 1}

func TestP5_1RoundExamples(t *testing.T) {
	for _, c := range []struct {
		k    api.Key
		i    int
		half uint32
		want uint32
	}{
		{0, 0, 0, 0}, {0, 0, 1, 465361024}, {1, 0, 0, 465426560}, {1, 64, 0, 465426560}, {1, -64, 0, 465426560},
		{0x0123456789abcdef, 0, 0, 0x8f077b2f}, {0x0123456789abcdef, 1, 0, 0x12c7ad90}, {0x0123456789abcdef, 5, 0xdeadbeef, 0x1dfd663d}, {0x0123456789abcdef, 7, 0xffffffff, 0x93e66741}, {0x0123456789abcdef, -1, 1, 0x728d2287},
		{1<<64 - 1, 3, 1, 0xffffffff}, {1 << 63, 1, 0, 0xf7620000},
	} {
		if got := block.Round(c.k, c.i, c.half); got != c.want {
			t.Errorf("Round(%x, %d, %x) = %x, want %x", c.k, c.i, c.half, got, c.want)
		}
	}
}

func TestP5_1RoundFollowsTheDefinition(t *testing.T) {
	random := rand.New(rand.NewSource(1))
	ks, hs := append([]api.Key{}, keys...), append([]uint32{}, halves...)
	for range 20 {
		ks, hs = append(ks, api.Key(random.Uint64())), append(hs, random.Uint32())
	}
	for _, k := range ks {
		for _, half := range hs {
			for _, i := range rounds {
				if got, want := block.Round(k, i, half), round(k, i, half); got != want {
					t.Fatalf("Round(%x, %d, %x) = %x, want %x", k, i, half, got, want)
				}
			}
		}
	}
}

func TestP5_1RoundUsesEachBitOfTheKey(t *testing.T) {
	for bit := range 64 {
		k := api.Key(1) << bit
		for i := range 64 {
			if got, want := block.Round(k, i, 7), round(k, i, 7); got != want {
				t.Fatalf("Round(%x, %d, 7) = %x, want %x", k, i, got, want)
			}
		}
	}
}

func TestP5_2MixExamples(t *testing.T) {
	for _, c := range []struct {
		k       api.Key
		x, want uint64
	}{
		{0, 0, 0}, {0, 1, 0x5f53a19ca22f4a83}, {1, 0, 0xb6edfe0ac90ac14d}, {0, 1 << 32, 0xcac48ffc5f53a19c}, {0, 1<<64 - 1, 0xeff3bed95c24bae8},
		{0x0123456789abcdef, 0, 0x0099da0abebd672f}, {0x0123456789abcdef, 1, 0xb6d6bb1d1beb7c31}, {0x0123456789abcdef, 1<<64 - 1, 0xa4262ed8182aa4bd},
		{1<<64 - 1, 1<<64 - 1, 0xaad074b17366fc79}, {1<<64 - 1, 0, 0xfd3d4d7b43c17ae5}, {1 << 63, 5, 0x3878c353a5752fff}, {9, 5, 0x7633c653c071bf22},
	} {
		if got := block.Mix(c.k, c.x); got != c.want {
			t.Errorf("Mix(%x, %x) = %x, want %x", c.k, c.x, got, c.want)
		}
	}
}

func TestP5_2MixFollowsTheDefinition(t *testing.T) {
	each(func(k api.Key, x uint64) {
		if got, want := block.Mix(k, x), mix(k, x); got != want {
			t.Fatalf("Mix(%x, %x) = %x, want %x", k, x, got, want)
		}
	})
}

func TestP5_3UnmixExamples(t *testing.T) {
	for _, c := range []struct {
		k       api.Key
		x, want uint64
	}{
		{0, 0, 0}, {0, 0x5f53a19ca22f4a83, 1}, {0, 0xcac48ffc5f53a19c, 1 << 32}, {9, 0x7633c653c071bf22, 5}, {1<<64 - 1, 0xaad074b17366fc79, 1<<64 - 1},
		{9, block.Mix(9, 5), 5},
	} {
		if got := block.Unmix(c.k, c.x); got != c.want {
			t.Errorf("Unmix(%x, %x) = %x, want %x", c.k, c.x, got, c.want)
		}
	}
}

func TestP5_3UnmixFindsTheNumber(t *testing.T) {
	each(func(k api.Key, x uint64) {
		if got := block.Unmix(k, mix(k, x)); got != x {
			t.Fatalf("Unmix(%x, %x) = %x, want %x", k, mix(k, x), got, x)
		}
		if got := mix(k, block.Unmix(k, x)); got != x {
			t.Fatalf("the image of Unmix(%x, %x) is %x", k, x, got)
		}
	})
}

func TestP5_4MixAndUnmixAreInverse(t *testing.T) {
	each(func(k api.Key, x uint64) {
		if got := block.Unmix(k, block.Mix(k, x)); got != x {
			t.Fatalf("Unmix(%x, Mix(%x, %x)) = %x", k, k, x, got)
		}
		if got := block.Mix(k, block.Unmix(k, x)); got != x {
			t.Fatalf("Mix(%x, Unmix(%x, %x)) = %x", k, k, x, got)
		}
	})
}

func TestP5_4DifferentNumbersHaveDifferentImages(t *testing.T) {
	for _, k := range keys {
		for _, shift := range []int{0, 24, 32, 48} {
			images, origins := map[uint64]bool{}, map[uint64]bool{}
			for n := range uint64(1 << 12) {
				images[block.Mix(k, n<<shift)] = true
				origins[block.Unmix(k, n<<shift)] = true
			}
			if len(images) != 1<<12 || len(origins) != 1<<12 {
				t.Fatalf("with the key %x: %d images, %d origins", k, len(images), len(origins))
			}
		}
	}
}

func TestP5_4DifferentHalvesHaveDifferentImages(t *testing.T) {
	for _, k := range keys {
		for _, i := range rounds {
			for _, half := range halves {
				if got := unround(k, i, block.Round(k, i, half)); got != half {
					t.Fatalf("Round(%x, %d) has the same image for %x and %x", k, i, half, got)
				}
			}
		}
		images := map[uint32]bool{}
		for half := range uint32(1 << 16) {
			images[block.Round(k, 3, half<<16)] = true
		}
		if len(images) != 1<<16 {
			t.Fatalf("with the key %x: %d images", k, len(images))
		}
	}
}

func TestP5_4RoundDependsOnIModulo64(t *testing.T) {
	for _, k := range keys {
		for i := range 64 {
			for _, turns := range []int{1, -1, 2, -2, 1000, -1000, 1 << 40, -1 << 40, math.MaxInt / 64, math.MinInt / 64} {
				if got, want := block.Round(k, i+64*turns, 0xdeadbeef), block.Round(k, i, 0xdeadbeef); got != want {
					t.Fatalf("Round(%x, %d) = %x, and of round %d %x", k, i+64*turns, got, i, want)
				}
			}
		}
	}
}

// each calls check with keys and numbers, those around which mistakes are likely and others by chance.
func each(check func(k api.Key, x uint64)) {
	for _, k := range keys {
		for _, x := range numbers {
			check(k, x)
		}
		for bit := range 64 {
			check(k, 1<<bit)
		}
	}
	random := rand.New(rand.NewSource(2))
	for range 5000 {
		check(api.Key(random.Uint64()), random.Uint64())
	}
}

// rotated moves each bit of x, a number of so many bits, n positions up, one by one.
func rotated(x uint64, bits, n int) uint64 {
	y := uint64(0)
	for i := range bits {
		if x>>i&1 == 1 {
			y |= 1 << ((i + n) % bits)
		}
	}
	return y
}

// low follows the definition of the number that a round takes from the key.
func low(k api.Key, i int) uint64 {
	turn := 11 * ((i%64 + 64) % 64) % 64
	return rotated(uint64(k), 64, turn) % (1 << 32)
}

// round follows the promise of Round in numbers of 64 bits.
func round(k api.Key, i int, half uint32) uint32 {
	lo := low(k, i)
	s := rotated((uint64(half)+lo)%(1<<32), 32, 7)
	return uint32(s*2654435761%(1<<32) ^ rotated(lo, 32, 16))
}

// unround returns the half whose round is y.
func unround(k api.Key, i int, y uint32) uint32 {
	const factor = uint32(2654435761)
	inverse := uint32(1)
	for range 5 {
		inverse *= 2 - factor*inverse
	}
	lo := low(k, i)
	s := (y ^ uint32(rotated(lo, 32, 16))) * inverse
	return uint32(rotated(uint64(s), 32, 25)) - uint32(lo)
}

// mix follows the promise of Mix.
func mix(k api.Key, x uint64) uint64 {
	l, r := uint32(x/(1<<32)), uint32(x%(1<<32))
	for i := 0; i <= 7; i++ {
		l, r = r, l^round(k, i, r)
	}
	return uint64(l)*(1<<32) + uint64(r)
}
