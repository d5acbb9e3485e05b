package serial_test

import (
	"math"
	"math/big"
	"math/rand"
	"testing"

	"wireless/serial"
)

// edges are numbers of 64 bits around which mistakes are likely.
var edges = []uint64{0, 1, 2, 127, 128, 129, 255, 256, 257, 1<<15 - 1, 1 << 15, 1<<16 - 1, 1 << 16, 1<<31 - 1, 1 << 32, 1<<62 - 1, 1 << 62, 1<<63 - 1, 1 << 63, 1<<63 + 1, 1<<63 + 1<<62, 1<<64 - 257, 1<<64 - 256, 1<<64 - 129, 1<<64 - 128, 1<<64 - 127, 1<<64 - 2, 1<<64 - 1}

// counters are numbers of 16 bits around which mistakes are likely.
var counters = []uint16{0, 1, 2, 255, 256, 32766, 32767, 32768, 32769, 65530, 65534, 65535}

func TestP1_1LowExamples(t *testing.T) {
	for _, c := range []struct {
		n    uint64
		bits int
		want uint64
	}{
		{258, 8, 2}, {258, -1, 0}, {258, 64, 258}, {258, 0, 0}, {258, 1, 0}, {259, 1, 1}, {258, 9, 258}, {255, 8, 255}, {256, 8, 0},
		{math.MaxUint64, 63, 1<<63 - 1}, {1 << 63, 63, 0}, {1 << 63, 64, 1 << 63},
	} {
		if got := serial.Low(c.n, c.bits); got != c.want {
			t.Errorf("Low(%d, %d) = %d, want %d", c.n, c.bits, got, c.want)
		}
	}
}

func TestP1_1LowIsTheRemainder(t *testing.T) {
	for _, n := range edges {
		for bits := range 65 {
			want := new(big.Int).Mod(new(big.Int).SetUint64(n), power(bits)).Uint64()
			if got := serial.Low(n, bits); got != want {
				t.Errorf("Low(%d, %d) = %d, want %d", n, bits, got, want)
			}
		}
	}
}

func TestP1_1LowLimitsBits(t *testing.T) {
	for _, n := range edges {
		for _, bits := range []int{-1, -8, -64, math.MinInt32, math.MinInt} {
			if got := serial.Low(n, bits); got != 0 {
				t.Errorf("Low(%d, %d) = %d, want 0", n, bits, got)
			}
		}
		for _, bits := range []int{65, 72, 128, math.MaxInt32, math.MaxInt} {
			if got := serial.Low(n, bits); got != n {
				t.Errorf("Low(%d, %d) = %d, want %d", n, bits, got, n)
			}
		}
	}
}

func TestP1_2DiffExamples(t *testing.T) {
	for _, c := range []struct {
		a, b uint16
		want int
	}{
		{65535, 2, 3}, {2, 65535, -3}, {0, 32768, -32768}, {32768, 0, -32768}, {0, 32767, 32767}, {32767, 0, -32767}, {0, 32769, -32767}, {7, 7, 0}, {0, 65535, -1}, {65535, 0, 1}, {1, 32769, -32768}, {65535, 32767, -32768}, {65535, 32766, 32767},
	} {
		if got := serial.Diff(c.a, c.b); got != c.want {
			t.Errorf("Diff(%d, %d) = %d, want %d", c.a, c.b, got, c.want)
		}
	}
}

func TestP1_2DiffIsInRangeAndCongruent(t *testing.T) {
	for _, a := range counters {
		for b := range 1 << 16 {
			d := serial.Diff(a, uint16(b))
			if d < -32768 || d > 32767 || remainder(int(a)+d-b) != 0 {
				t.Fatalf("Diff(%d, %d) = %d", a, b, d)
			}
		}
	}
}

func TestP1_2AddExamples(t *testing.T) {
	for _, c := range []struct {
		a    uint16
		n    int
		want uint16
	}{
		{65535, 3, 2}, {2, -3, 65535}, {2, 0, 2}, {2, 65536, 2}, {2, -65536, 2}, {2, 65535, 1}, {2, -65535, 3}, {0, 32768, 32768}, {32768, 32768, 0}, {0, -32768, 32768},
		{2, math.MinInt, 2}, {2, math.MaxInt, 1}, {2, math.MinInt + 5, 7}, {2, 1<<32 + 1, 3}, {2, -1 << 32, 2},
	} {
		if got := serial.Add(c.a, c.n); got != c.want {
			t.Errorf("Add(%d, %d) = %d, want %d", c.a, c.n, got, c.want)
		}
	}
}

func TestP1_2AddIsTheSum(t *testing.T) {
	for _, a := range counters {
		for n := -70000; n <= 140000; n += 7 {
			if got, want := serial.Add(a, n), remainder(int(a)+n); int(got) != want {
				t.Fatalf("Add(%d, %d) = %d, want %d", a, n, got, want)
			}
		}
	}
}

func TestP1_3PassedExamples(t *testing.T) {
	for _, c := range []struct {
		now, instant uint16
		want         bool
	}{
		{2, 2, true}, {65530, 2, false}, {2, 65530, true}, {1, 2, false}, {3, 2, true}, {32767, 0, true}, {32768, 0, false}, {32769, 0, false}, {65535, 0, false}, {0, 65535, true}, {0, 32768, false}, {0, 32769, true},
	} {
		if got := serial.Passed(c.now, c.instant); got != c.want {
			t.Errorf("Passed(%d, %d) = %t", c.now, c.instant, got)
		}
	}
}

func TestP1_3PassedForHalfOfTheCounters(t *testing.T) {
	for _, instant := range counters {
		for after := range 1 << 16 {
			now := instant + uint16(after)
			if got := serial.Passed(now, instant); got != (after < 1<<15) {
				t.Fatalf("Passed(%d, %d) = %t", now, instant, got)
			}
		}
	}
}

func TestP1_3BetweenExamples(t *testing.T) {
	for _, c := range []struct {
		first, last, n uint16
		want           bool
	}{
		{65534, 1, 0, true}, {1, 65534, 0, false}, {5, 5, 5, true}, {5, 5, 6, false}, {5, 5, 4, false}, {65534, 1, 65534, true}, {65534, 1, 1, true}, {65534, 1, 65535, true}, {65534, 1, 2, false}, {65534, 1, 65533, false}, {1, 65534, 1, true}, {1, 65534, 65534, true}, {1, 65534, 65535, false}, {1, 65534, 40000, true},
	} {
		if got := serial.Between(c.first, c.last, c.n); got != c.want {
			t.Errorf("Between(%d, %d, %d) = %t", c.first, c.last, c.n, got)
		}
	}
}

func TestP1_3BetweenIsTheWayUp(t *testing.T) {
	for _, first := range counters {
		for _, last := range counters {
			way := map[uint16]bool{first: true}
			for n := first; n != last; {
				n++
				way[n] = true
			}
			for n := range 1 << 16 {
				if got := serial.Between(first, last, uint16(n)); got != way[uint16(n)] {
					t.Fatalf("Between(%d, %d, %d) = %t", first, last, n, got)
				}
			}
		}
	}
}

func TestP1_4ExtendExamples(t *testing.T) {
	for _, c := range []struct {
		last, low uint64
		bits      int
		want      uint64
	}{
		{260, 1, 8, 257}, {255, 1, 8, 257}, {128, 0, 8, 256}, {0, 255, 8, 255},
		{math.MaxUint64, 0, 8, 1<<64 - 256}, // 2^64 is not considered
		{1<<64 - 128, 0, 8, 1<<64 - 256},    // although it would be as near
		{0, 1<<63 - 1, 63, 1<<63 - 1},       // -1 is not considered
		{127, 0, 8, 0}, {129, 0, 8, 256},    // on both sides of the middle
		{5, 0, 1, 6}, {0, 1, 1, 1}, {6, 1, 1, 7}, // of two neighbours the greater one
		{math.MaxUint64, 0, 1, math.MaxUint64 - 1},
		{260, 0xff01, 8, 257}, // higher bits of low do not matter
		{1 << 62, 0, 63, 1 << 63}, {1<<62 - 1, 0, 63, 0}, {1<<63 + 1<<62, 0, 63, 1 << 63}, {math.MaxUint64, 0, 63, 1 << 63}, {math.MaxUint64, 5, 63, 1<<63 + 5},
		{300, 300 & 255, 8, 300},
	} {
		if got := serial.Extend(c.last, c.low, c.bits); got != c.want {
			t.Errorf("Extend(%d, %d, %d) = %d, want %d", c.last, c.low, c.bits, got, c.want)
		}
	}
}

func TestP1_4ExtendIsTheNearest(t *testing.T) {
	random := rand.New(rand.NewSource(1))
	numbers := append([]uint64{}, edges...)
	for range 20 {
		numbers = append(numbers, random.Uint64(), random.Uint64()>>random.Intn(64))
	}
	for _, last := range numbers {
		for _, low := range numbers {
			for bits := 1; bits <= 63; bits++ {
				if got, want := serial.Extend(last, low, bits), nearest(last, low, bits); got != want {
					t.Fatalf("Extend(%d, %d, %d) = %d, want %d", last, low, bits, got, want)
				}
			}
		}
	}
}

func TestP1_4ExtendPrefersTheGreaterOfTwo(t *testing.T) {
	for bits := 1; bits <= 62; bits++ {
		half, step := uint64(1)<<(bits-1), uint64(1)<<bits
		for _, low := range []uint64{0, step - 1} {
			if got, want := serial.Extend(low+half, low, bits), low+step; got != want {
				t.Errorf("Extend(%d, %d, %d) = %d, want %d", low+half, low, bits, got, want)
			}
		}
	}
}

func TestP1_4ExtendLimitsBits(t *testing.T) {
	for _, last := range edges {
		for _, low := range edges {
			for _, bits := range []int{0, -1, -63, math.MinInt} {
				if got, want := serial.Extend(last, low, bits), nearest(last, low, 1); got != want {
					t.Errorf("Extend(%d, %d, %d) = %d, want %d", last, low, bits, got, want)
				}
			}
			for _, bits := range []int{64, 65, 127, math.MaxInt} {
				if got, want := serial.Extend(last, low, bits), nearest(last, low, 63); got != want {
					t.Errorf("Extend(%d, %d, %d) = %d, want %d", last, low, bits, got, want)
				}
			}
		}
	}
}

func TestP1_5AddUndoesDiff(t *testing.T) {
	for _, a := range counters {
		for b := range 1 << 16 {
			if got := serial.Add(a, serial.Diff(a, uint16(b))); int(got) != b {
				t.Fatalf("Add(%d, Diff(%d, %d)) = %d", a, a, b, got)
			}
		}
	}
}

func TestP1_5ExtendRecoversNeighbours(t *testing.T) {
	for _, last := range edges {
		for bits := 1; bits <= 63; bits++ {
			half := uint64(1) << (bits - 1)
			for _, far := range []uint64{0, 1, half / 2, half - 1} {
				if far >= half {
					continue
				}
				if up := last + far; up >= last && serial.Extend(last, serial.Low(up, bits), bits) != up {
					t.Errorf("%d is not recovered from %d by %d bits", up, last, bits)
				}
				if down := last - far; down <= last && serial.Extend(last, serial.Low(down, bits), bits) != down {
					t.Errorf("%d is not recovered from %d by %d bits", down, last, bits)
				}
			}
		}
	}
}

func TestP1_5InstantsComeInTime(t *testing.T) {
	for _, start := range counters {
		for _, ahead := range []int{0, 1, 6, 1000, 1<<15 - 1} {
			instant := serial.Add(start, ahead)
			for events := range 1 << 15 {
				if got := serial.Passed(serial.Add(start, events), instant); got != (events >= ahead) {
					t.Fatalf("planned %d events ahead of %d, after %d events: %t", ahead, start, events, got)
				}
			}
		}
	}
}

// nearest follows the promise of Extend in mathematical integers.
func nearest(last, low uint64, bits int) uint64 {
	step, from := power(bits), new(big.Int).SetUint64(last)
	best, distance := new(big.Int), new(big.Int)
	n := new(big.Int).Div(from, step)
	n.Sub(n, big.NewInt(2)).Mul(n, step)
	n.Add(n, new(big.Int).Mod(new(big.Int).SetUint64(low), step))
	found := false
	for range 5 {
		d := new(big.Int).Sub(n, from)
		d.Abs(d)
		// The numbers ascend, so that an equally near one is the greater one.
		if n.Sign() >= 0 && n.IsUint64() && (!found || d.Cmp(distance) <= 0) {
			found = true
			best.Set(n)
			distance.Set(d)
		}
		n.Add(n, step)
	}
	return best.Uint64()
}

func power(bits int) *big.Int {
	return new(big.Int).Lsh(big.NewInt(1), uint(bits))
}

// remainder returns n modulo 2^16.
func remainder(n int) int {
	return (n%(1<<16) + 1<<16) % (1 << 16)
}
