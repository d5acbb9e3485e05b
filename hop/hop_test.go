package hop_test

import (
	"fmt"
	"math"
	"math/big"
	"math/rand"
	"slices"
	"testing"

	"wireless/api"
	"wireless/chanmap"
	"wireless/hop"
)

const (
	// even is the map of every other channel.
	even api.ChannelMap = 0x1555555555
	// few is the map of the channels 9, 10, 21 to 23 and 33 to 36.
	few api.ChannelMap = 0x1e00e00600
)

// numbers are channels and increments around which mistakes are likely, valid ones and others.
var numbers = []int{math.MinInt, math.MinInt + 1, math.MinInt + 36, -1 << 32, -75, -74, -73, -38, -37, -36, -7, -1, 0, 1, 5, 7, 16, 17, 31, 32, 35, 36, 37, 38, 39, 73, 74, 75, 1 << 32, math.MaxInt - 36, math.MaxInt - 1, math.MaxInt}

// words are events and identifiers around which mistakes are likely.
var words = []uint16{0, 1, 2, 3, 6, 0x10, 0x7f, 0x80, 0xff, 0x100, 0x101, 0x305f, 0x5555, 0x7fff, 0x8000, 0x8001, 0xaaaa, 0xff00, 0xfffe, 0xffff}

// accesses are access addresses around which mistakes are likely.
var accesses = []uint32{0, 1, 3, 0xffff, 0x10000, 0x10001, 0x12345678, 0x50655655, 0x80000000, api.AdvAccess, 0xffff0000, math.MaxUint32}

// maps are channel maps around which mistakes are likely, valid ones and others.
var maps = []api.ChannelMap{0, 1, 2, 3, 7, 33, 1 << 18, 1 << 36, 1 | 1<<36, 7 << 20, even, few, api.AllChannels, api.AllChannels &^ 1, api.AllChannels &^ (1 << 36), 1 << 37, 33 | 1<<37, 33 | 1<<63, ^api.AllChannels, math.MaxUint64}

func TestP13_1StepExamples(t *testing.T) {
	for _, c := range []struct{ last, hop, want int }{
		{35, 7, 5}, {0, 5, 5}, {-1, 0, 36}, {0, 0, 0}, {36, 0, 36}, {36, 1, 0}, {30, 6, 36}, {30, 7, 0}, {36, 16, 15}, {36, 36, 35}, {0, 37, 0}, {0, 36, 36}, {0, -1, 36}, {0, -37, 0}, {0, -38, 36}, {5, -5, 0}, {-36, 0, 1}, {-37, 0, 0}, {-36, -36, 2}, {-1, -37, 36}, {100, 200, 4},
		{math.MaxInt, 0, 5}, {0, math.MaxInt, 5}, {math.MaxInt, math.MaxInt, 10}, {math.MaxInt, 1, 6}, {1, math.MaxInt, 6}, {math.MaxInt, 36, 4}, {math.MinInt, 0, 31}, {math.MinInt, math.MinInt, 25}, {math.MinInt, -1, 30}, {-1, math.MinInt, 30}, {math.MaxInt, math.MinInt, 36},
	} {
		if got := hop.Step(c.last, c.hop); got != c.want {
			t.Errorf("Step(%d, %d) = %d, want %d", c.last, c.hop, got, c.want)
		}
	}
}

func TestP13_1StepFollowsTheDefinition(t *testing.T) {
	random := rand.New(rand.NewSource(1))
	for _, last := range someNumbers(random) {
		for _, increment := range someNumbers(random) {
			if got, want := hop.Step(last, increment), step(last, increment); got != want {
				t.Fatalf("Step(%d, %d) = %d, want %d", last, increment, got, want)
			}
		}
	}
}

func TestP13_2IdentExamples(t *testing.T) {
	for _, c := range []struct {
		access uint32
		want   uint16
	}{
		{api.AdvAccess, 0x305f}, {0, 0}, {1, 1}, {0x10000, 1}, {0x10001, 0}, {0xffff, 0xffff}, {0xffff0000, 0xffff}, {math.MaxUint32, 0}, {0x12345678, 0x444c}, {0x50655655, 0x0630}, {0x8000, 0x8000}, {0x80000000, 0x8000}, {0x0ff0f00f, 0xffff},
	} {
		if got := hop.Ident(c.access); got != c.want {
			t.Errorf("Ident(%08x) = %04x, want %04x", c.access, got, c.want)
		}
	}
}

func TestP13_2IdentFollowsTheDefinition(t *testing.T) {
	random := rand.New(rand.NewSource(2))
	for range 100000 {
		access := random.Uint32()
		if got, want := hop.Ident(access), ident(access); got != want {
			t.Fatalf("Ident(%08x) = %04x, want %04x", access, got, want)
		}
	}
}

func TestP13_2RandomExamples(t *testing.T) {
	for _, c := range []struct{ event, ident, want uint16 }{
		{0, 0x305f, 56857}, {1, 0x305f, 1685}, {2, 0x305f, 38301}, {3, 0x305f, 27475}, {4, 0x305f, 42843}, {5, 0x305f, 18647}, {6, 0x305f, 10975}, {7, 0x305f, 5490}, {8, 0x305f, 46970},
		{0, 0, 0}, {1, 0, 37128}, {0, 1, 40155}, {0x00ff, 0, 47174}, {0x0100, 0, 2048}, {0x8000, 0, 4096}, {0xffff, 0, 65094}, {0, 0xffff, 39465}, {0xffff, 0xffff, 2329}, {0x305f, 0x305f, 23217}, {0x1234, 0xabcd, 62415}, {1000, 54321, 14962},
	} {
		if got := hop.Random(c.event, c.ident); got != c.want {
			t.Errorf("Random(%04x, %04x) = %d, want %d", c.event, c.ident, got, c.want)
		}
	}
}

func TestP13_2RandomFollowsTheDefinition(t *testing.T) {
	check := func(event, ident uint16) {
		if got, want := hop.Random(event, ident), number(event, ident); got != want {
			t.Fatalf("Random(%04x, %04x) = %04x, want %04x", event, ident, got, want)
		}
	}
	for _, a := range words {
		for b := 0; b <= math.MaxUint16; b += 7 {
			check(a, uint16(b))
			check(uint16(b), a)
		}
	}
}

func TestP13_3MixExamples(t *testing.T) {
	for _, c := range []struct {
		m      api.ChannelMap
		event  uint16
		access uint32
		want   int
	}{
		{api.AllChannels, 0, api.AdvAccess, 25}, {api.AllChannels, 1, api.AdvAccess, 20}, {api.AllChannels, 2, api.AdvAccess, 6}, {api.AllChannels, 3, api.AdvAccess, 21}, {api.AllChannels, 5, api.AdvAccess, 36},
		{33, 0, api.AdvAccess, 5}, {33, 1, api.AdvAccess, 0}, {33, 2, api.AdvAccess, 5}, {33, 3, api.AdvAccess, 0}, {33, 4, api.AdvAccess, 5}, {33, 5, api.AdvAccess, 0},
		{few, 6, api.AdvAccess, 23}, {few, 7, api.AdvAccess, 9}, {few, 8, api.AdvAccess, 34},
		{even, 0, 0x12345678, 6}, {even, 1, 0x12345678, 12}, {even, 2, 0x12345678, 8}, {even, 3, 0x12345678, 10}, {even, 4, 0x12345678, 24}, {even, 7, 0x12345678, 22},
		{1<<36 | 1<<9, 0, 0x50655655, 36}, {1<<36 | 1<<9, 1, 0x50655655, 9}, {1<<36 | 1<<9, 3, 0x50655655, 36}, {7 << 20, 65535, math.MaxUint32, 22}, {7 << 20, 0, 0, 20}, {1 << 18, 77, 3, 18},
		{api.AllChannels &^ 1, 0, 0x50655655, 12}, {api.AllChannels &^ 1, 1, 0x50655655, 2}, {api.AllChannels &^ 1, 65535, 0x50655655, 4}, {1, 65535, 0x50655655, 0},
		{0, 0, api.AdvAccess, -1}, {0, 77, 3, -1}, {1 << 37, 0, api.AdvAccess, -1}, {^api.AllChannels, 5, 0x12345678, -1}, {33 | 1<<37, 0, api.AdvAccess, 5}, {33 | 1<<63, 1, api.AdvAccess, 0}, {math.MaxUint64, 0, api.AdvAccess, 25}, {7<<20 | 7<<40, 65535, math.MaxUint32, 22},
	} {
		if got := hop.Mix(c.m, c.event, c.access); got != c.want {
			t.Errorf("Mix(%x, %d, %08x) = %d, want %d", uint64(c.m), c.event, c.access, got, c.want)
		}
	}
}

func TestP13_3MixFollowsTheDefinition(t *testing.T) {
	random := rand.New(rand.NewSource(3))
	for _, m := range someMaps(random) {
		for _, access := range someAccesses(random) {
			for _, event := range someEvents(random) {
				if got, want := hop.Mix(m, event, access), mix(m, event, access); got != want {
					t.Fatalf("Mix(%x, %d, %08x) = %d, want %d", uint64(m), event, access, got, want)
				}
			}
		}
	}
}

func TestP13_4NextExamples(t *testing.T) {
	for _, c := range []struct {
		p                 api.ConnParams
		event             uint16
		last              int
		channel, unmapped int
	}{
		{api.ConnParams{Algorithm: api.HopSum, Hop: 7, Map: 33}, 0, 0, 5, 7}, {api.ConnParams{Algorithm: api.HopSum, Hop: 7, Map: 33}, 9, 35, 5, 5}, {api.ConnParams{Algorithm: api.HopSum, Hop: 5, Map: 33}, 0, 32, 0, 0}, {api.ConnParams{Algorithm: api.HopSum, Hop: 16, Map: api.AllChannels}, 0, 36, 15, 15}, {api.ConnParams{Algorithm: api.HopSum, Hop: 6, Map: 7 << 20}, 3, 36, 22, 5},
		{api.ConnParams{Algorithm: api.HopSum, Hop: 7, Map: 0}, 0, 35, -1, 5}, {api.ConnParams{Algorithm: api.HopSum, Hop: 7, Map: 1 << 37}, 0, 0, -1, 7}, {api.ConnParams{Algorithm: api.HopSum, Hop: 0, Map: 33 | 1<<37}, 0, -1, 0, 36}, {api.ConnParams{Algorithm: api.HopSum, Hop: math.MaxInt, Map: 33}, 0, math.MaxInt, 0, 10}, {api.ConnParams{Algorithm: api.HopSum, Hop: -1, Map: api.AllChannels}, 0, 0, 36, 36},
		{api.ConnParams{Algorithm: api.HopMix, Access: api.AdvAccess, Map: api.AllChannels}, 0, 0, 25, 25}, {api.ConnParams{Algorithm: api.HopMix, Access: api.AdvAccess, Map: 33, Hop: 7}, 0, 0, 5, 25}, {api.ConnParams{Algorithm: api.HopMix, Access: api.AdvAccess, Map: 33, Hop: 7}, 1, 11, 0, 20}, {api.ConnParams{Algorithm: api.HopMix, Access: api.AdvAccess, Map: few, Hop: 7}, 7, 36, 9, 14}, {api.ConnParams{Algorithm: api.HopMix, Access: api.AdvAccess}, 0, 0, -1, 25}, {api.ConnParams{Algorithm: api.HopMix, Map: ^api.AllChannels}, 0, 3, -1, 0},
		{api.ConnParams{Access: api.AdvAccess, Map: api.AllChannels, Hop: 9}, 0, 30, 2, 2}, {api.ConnParams{Algorithm: 3, Access: api.AdvAccess, Map: 33, Hop: 9}, 0, 30, 0, 2}, {api.ConnParams{Algorithm: -1, Access: api.AdvAccess, Map: 33, Hop: 10}, 0, 30, 5, 3}, {api.ConnParams{Algorithm: math.MinInt, Hop: 1}, 0, 0, -1, 1},
	} {
		if channel, unmapped := hop.Next(c.p, c.event, c.last); channel != c.channel || unmapped != c.unmapped {
			t.Errorf("Next(%+v, %d, %d) = %d, %d, want %d, %d", c.p, c.event, c.last, channel, unmapped, c.channel, c.unmapped)
		}
	}
}

func TestP13_4NextFollowsTheDefinition(t *testing.T) {
	random := rand.New(rand.NewSource(4))
	for _, p := range someParams(random) {
		for _, event := range someEvents(random) {
			last := someNumbers(random)[random.Intn(len(numbers)+20)]
			wantUnmapped := step(last, p.Hop)
			want := chanmap.Remap(p.Map, wantUnmapped)
			if p.Algorithm == 2 {
				wantUnmapped = int(number(event, ident(p.Access))) % 37
				want = mix(p.Map, event, p.Access)
			}
			if channel, unmapped := hop.Next(p, event, last); channel != want || unmapped != wantUnmapped {
				t.Fatalf("Next(%+v, %d, %d) = %d, %d, want %d, %d", p, event, last, channel, unmapped, want, wantUnmapped)
			}
		}
	}
}

func TestP13_4NextUsesNothingElse(t *testing.T) {
	for _, algorithm := range []int{0, api.HopSum, api.HopMix} {
		p := api.ConnParams{Access: api.AdvAccess, Map: few, Hop: 9, Algorithm: algorithm}
		other := p
		other.Init, other.PPM, other.Update = 0x123456, 40, api.Update{Interval: 6, Latency: 3, Timeout: 100}
		for event := range uint16(100) {
			channel, unmapped := hop.Next(p, event, int(event))
			if channel2, unmapped2 := hop.Next(other, event, int(event)); channel2 != channel || unmapped2 != unmapped {
				t.Errorf("Next with the algorithm %d depends on other parameters", algorithm)
			}
			if algorithm == api.HopMix {
				other.Hop = int(event)
				if channel2, unmapped2 := hop.Next(other, event, -5); channel2 != channel || unmapped2 != unmapped {
					t.Errorf("HopMix depends on the increment or the last channel")
				}
				continue
			}
			other.Access = uint32(event)
			if channel2, unmapped2 := hop.Next(other, event+1, int(event)); channel2 != channel || unmapped2 != unmapped {
				t.Errorf("HopSum depends on the access address or the event")
			}
		}
	}
}

func TestP13_5NextStaysOnTheMap(t *testing.T) {
	random := rand.New(rand.NewSource(5))
	for _, p := range someParams(random) {
		for _, event := range someEvents(random) {
			last := random.Intn(200) - 100
			channel, unmapped := hop.Next(p, event, last)
			if unmapped < 0 || unmapped > 36 {
				t.Fatalf("Next(%+v, %d, %d) = %d, %d: no data channel", p, event, last, channel, unmapped)
			}
			if chanmap.Count(p.Map) > 0 && !chanmap.Has(p.Map, channel) || chanmap.Has(p.Map, unmapped) && channel != unmapped {
				t.Fatalf("Next(%+v, %d, %d) = %d, %d", p, event, last, channel, unmapped)
			}
		}
	}
}

func TestP13_6StepsVisitEveryChannelOnce(t *testing.T) {
	random := rand.New(rand.NewSource(6))
	for _, increment := range someNumbers(random) {
		if increment%37 == 0 {
			continue
		}
		for _, start := range someNumbers(random) {
			seen := map[int]bool{}
			last := start
			for range 37 {
				last = hop.Step(last, increment)
				seen[last] = true
			}
			for channel := range 37 {
				if !seen[channel] {
					t.Fatalf("from %d with the increment %d, %d is not visited", start, increment, channel)
				}
			}
		}
	}
}

func TestP13_6NextVisitsEveryChannelOfTheMap(t *testing.T) {
	random := rand.New(rand.NewSource(7))
	for _, m := range someMaps(random) {
		for increment := 5; increment <= 16; increment++ {
			p := api.ConnParams{Map: m, Hop: increment, Algorithm: api.HopSum}
			event, last := uint16(random.Intn(1<<16)), random.Intn(37)
			var visited []int
			for range 37 + random.Intn(37) {
				channel := 0
				channel, last = hop.Next(p, event, last)
				visited = append(visited, channel)
				event++
			}
			for _, channel := range chanmap.List(m) {
				if !slices.Contains(visited[len(visited)-37:], channel) {
					t.Fatalf("with the map %x and the increment %d, %d is not visited", uint64(m), increment, channel)
				}
			}
		}
	}
}

// someNumbers returns the numbers at the edges and random ones.
func someNumbers(random *rand.Rand) []int {
	all := slices.Clone(numbers)
	for range 10 {
		all = append(all, random.Intn(200)-100, int(random.Uint64()))
	}
	return all
}

// someEvents returns the words at the edges and random ones.
func someEvents(random *rand.Rand) []uint16 {
	all := slices.Clone(words)
	for range 20 {
		all = append(all, uint16(random.Intn(1<<16)))
	}
	return all
}

// someAccesses returns the access addresses at the edges and random ones.
func someAccesses(random *rand.Rand) []uint32 {
	all := slices.Clone(accesses)
	for range 8 {
		all = append(all, random.Uint32())
	}
	return all
}

// someMaps returns the maps at the edges, one of each number of channels, and random ones.
func someMaps(random *rand.Rand) []api.ChannelMap {
	all := slices.Clone(maps)
	m := api.ChannelMap(0)
	for _, channel := range random.Perm(37) {
		m |= 1 << channel
		all = append(all, m)
	}
	for range 30 {
		all = append(all, api.ChannelMap(random.Uint64()), api.ChannelMap(random.Uint64())&api.AllChannels, api.ChannelMap(random.Uint64()&random.Uint64()&random.Uint64()))
	}
	return all
}

// someParams returns parameters with the maps and increments at the edges and of all algorithms, valid ones and others.
func someParams(random *rand.Rand) []api.ConnParams {
	var all []api.ConnParams
	for _, m := range someMaps(random) {
		for algorithm := -1; algorithm <= 3; algorithm++ {
			increments := []int{5 + random.Intn(12), numbers[random.Intn(len(numbers))]}
			for _, increment := range increments {
				all = append(all, api.ConnParams{Access: random.Uint32(), Map: m, Hop: increment, Algorithm: algorithm})
			}
		}
	}
	return all
}

func step(last, increment int) int {
	sum := new(big.Int).Add(big.NewInt(int64(last)), big.NewInt(int64(increment)))
	return int(sum.Mod(sum, big.NewInt(37)).Int64())
}

// ident takes the digits of both halves of an access address.
func ident(access uint32) uint16 {
	upper, lower := access/65536, access%65536
	n := uint16(0)
	for place := uint32(1); place < 65536; place *= 2 {
		if upper/place%2 != lower/place%2 {
			n += uint16(place)
		}
	}
	return n
}

// number computes what Random returns from the digits of the numbers.
func number(event, ident uint16) uint16 {
	n := int(event ^ ident)
	for round := 0; round < 3; round++ {
		digits := []byte(fmt.Sprintf("%016b", n))
		slices.Reverse(digits[:8])
		slices.Reverse(digits[8:])
		n = 0
		for _, digit := range digits {
			n = 2*n + int(digit-'0')
		}
		n = (n*17 + int(ident)) % 65536
	}
	return uint16(n) ^ ident
}

// mix finds the channel by its share of the numbers of 16 bits.
func mix(m api.ChannelMap, event uint16, access uint32) int {
	var channels []int
	for channel := range 37 {
		if uint64(m)>>channel%2 == 1 {
			channels = append(channels, channel)
		}
	}
	r := int(number(event, ident(access)))
	if slices.Contains(channels, r%37) {
		return r % 37
	}
	for i, channel := range channels {
		if len(channels)*r < (i+1)*65536 {
			return channel
		}
	}
	return -1
}
