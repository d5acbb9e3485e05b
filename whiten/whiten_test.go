package whiten_test

import (
	"bytes"
	"math"
	"math/rand"
	"slices"
	"testing"

	"wireless/api"
	"wireless/crc"
	"wireless/whiten"
)

// limited holds channels below and above the range, with the channels to which they are limited.
var limited = map[int]int{-1: 0, -2: 0, -64: 0, -128: 0, math.MinInt32: 0, math.MinInt: 0, 40: 39, 41: 39, 63: 39, 64: 39, 99: 39, 128: 39, math.MaxInt32: 39, math.MaxInt: 39}

func TestP4_1StateExamples(t *testing.T) {
	for n, want := range []int{64, 17, 34, 68, 25, 50, 100, 89, 35, 70, 29, 58, 116, 121, 99, 87, 63} {
		if got := whiten.State(0, n); got != want {
			t.Errorf("State(0, %d) = %d, want %d", n, got, want)
		}
	}
	for _, c := range []struct{ channel, n, want int }{
		{0, -1, 64}, {37, 1, 91}, {99, 0, 103}, {39, 0, 103}, {1, 0, 65}, {36, 0, 100}, {-5, 0, 64}, {0, 127, 64}, {0, 128, 17},
	} {
		if got := whiten.State(c.channel, c.n); got != c.want {
			t.Errorf("State(%d, %d) = %d, want %d", c.channel, c.n, got, c.want)
		}
	}
}

func TestP4_1StateIsAfterEachStep(t *testing.T) {
	for channel := range api.Channels {
		registers, _ := steps(channel, 600)
		for n, want := range registers {
			if got := whiten.State(channel, n); got != want {
				t.Fatalf("State(%d, %d) = %d, want %d", channel, n, got, want)
			}
		}
	}
}

func TestP4_1StateLimitsN(t *testing.T) {
	const most = 8 * api.MaxBytes
	for _, channel := range []int{0, 1, 20, 39} {
		registers, _ := steps(channel, most)
		for _, n := range []int{most - 2, most - 1, most} {
			if got := whiten.State(channel, n); got != registers[n] {
				t.Errorf("State(%d, %d) = %d, want %d", channel, n, got, registers[n])
			}
		}
		for n := most + 1; n < most+127; n++ {
			if got := whiten.State(channel, n); got != registers[most] {
				t.Fatalf("State(%d, %d) = %d, want %d", channel, n, got, registers[most])
			}
		}
		for _, n := range []int{2 * most, math.MaxInt32, math.MaxInt, math.MaxInt - 1} {
			if got := whiten.State(channel, n); got != registers[most] {
				t.Errorf("State(%d, %d) = %d, want %d", channel, n, got, registers[most])
			}
		}
		for _, n := range []int{-1, -2, -8, -127, -most, math.MinInt32, math.MinInt} {
			if got := whiten.State(channel, n); got != 64+channel {
				t.Errorf("State(%d, %d) = %d, want %d", channel, n, got, 64+channel)
			}
		}
	}
}

func TestP4_1StateLimitsChannels(t *testing.T) {
	for channel, nearest := range limited {
		for n := range 20 {
			if got, want := whiten.State(channel, n), whiten.State(nearest, n); got != want {
				t.Errorf("State(%d, %d) = %d, want %d", channel, n, got, want)
			}
		}
	}
}

func TestP4_2StreamExamples(t *testing.T) {
	for _, c := range []struct {
		channel, n int
		want       []byte
	}{
		{0, 2, []byte{0xc9, 0xf2}}, {0, 1, []byte{0xc9}}, {0, 0, nil}, {0, -3, nil}, {-7, 2, []byte{0xc9, 0xf2}},
	} {
		if got := whiten.Stream(c.channel, c.n); !bytes.Equal(got, c.want) {
			t.Errorf("Stream(%d, %d) = %x, want %x", c.channel, c.n, got, c.want)
		}
	}
}

func TestP4_2StreamIsTheSequence(t *testing.T) {
	for channel := range api.Channels {
		_, want := steps(channel, 8*300)
		for _, n := range []int{0, 1, 2, 3, 15, 16, 17, 127, 128, 251, 300} {
			if got := whiten.Stream(channel, n); !bytes.Equal(got, want[:n]) {
				t.Fatalf("Stream(%d, %d) = %x, want %x", channel, n, got, want[:n])
			}
		}
	}
}

func TestP4_2StreamLimitsN(t *testing.T) {
	_, want := steps(17, 8*api.MaxBytes)
	for _, n := range []int{api.MaxBytes, api.MaxBytes + 1, 8 * api.MaxBytes, math.MaxInt32, math.MaxInt} {
		if got := whiten.Stream(17, n); !bytes.Equal(got, want) {
			t.Errorf("Stream(17, %d) has %d bytes", n, len(got))
		}
	}
	if got := whiten.Stream(17, api.MaxBytes-1); !bytes.Equal(got, want[:api.MaxBytes-1]) {
		t.Errorf("one byte less: %d bytes", len(got))
	}
	for _, n := range []int{-1, -8, math.MinInt32, math.MinInt} {
		if got := whiten.Stream(17, n); len(got) != 0 {
			t.Errorf("Stream(17, %d) has %d bytes", n, len(got))
		}
	}
}

func TestP4_2StreamLimitsChannels(t *testing.T) {
	for channel, nearest := range limited {
		if got, want := whiten.Stream(channel, 20), whiten.Stream(nearest, 20); !bytes.Equal(got, want) {
			t.Errorf("Stream(%d, 20) = %x, want %x", channel, got, want)
		}
	}
}

func TestP4_3ApplyExamples(t *testing.T) {
	for _, c := range []struct {
		channel int
		b, want []byte
	}{
		{0, []byte{0x00, 0xff}, []byte{0xc9, 0x0d}}, {0, nil, nil}, {0, []byte{}, nil}, {0, []byte{0xc9, 0xf2}, []byte{0, 0}}, {-1, []byte{0xc9}, []byte{0}},
	} {
		if got := whiten.Apply(c.channel, c.b); !bytes.Equal(got, c.want) {
			t.Errorf("Apply(%d, %x) = %x, want %x", c.channel, c.b, got, c.want)
		}
	}
}

func TestP4_3ApplyCombinesWithTheSequence(t *testing.T) {
	random := rand.New(rand.NewSource(1))
	for channel := range api.Channels {
		_, sequence := steps(channel, 8*50)
		for size := range 50 {
			b := randomBytes(random, size)
			want := make([]byte, size)
			for i := range want {
				want[i] = b[i] ^ sequence[i]
			}
			if got := whiten.Apply(channel, b); !bytes.Equal(got, want) {
				t.Fatalf("Apply(%d, %x) = %x, want %x", channel, b, got, want)
			}
		}
	}
}

func TestP4_3ApplyIsNotLimited(t *testing.T) {
	const size = api.MaxBytes + 300
	_, want := steps(5, 8*size)
	if got := whiten.Apply(5, make([]byte, size)); !bytes.Equal(got, want) {
		t.Errorf("%d bytes", len(got))
	}
}

func TestP4_3ApplyLimitsChannels(t *testing.T) {
	b := []byte{1, 2, 3, 4, 5, 6, 7, 8, 9}
	for channel, nearest := range limited {
		if got, want := whiten.Apply(channel, b), whiten.Apply(nearest, b); !bytes.Equal(got, want) {
			t.Errorf("Apply(%d) = %x, want %x", channel, got, want)
		}
	}
}

func TestP4_3ApplyReturnsNewMemory(t *testing.T) {
	memory := []byte{1, 2, 3, 4, 5, 6, 7, 8}
	before := slices.Clone(memory)
	got := whiten.Apply(3, memory[:4])
	if !bytes.Equal(memory, before) {
		t.Fatalf("the argument became %v", memory)
	}
	clear(got[:cap(got)])
	if !bytes.Equal(memory, before) {
		t.Error("the result shares memory with the argument")
	}
}

func TestP4_4ApplyIsItsInverse(t *testing.T) {
	random := rand.New(rand.NewSource(2))
	for channel := range api.Channels {
		b := randomBytes(random, 260)
		if got := whiten.Apply(channel, whiten.Apply(channel, b)); !bytes.Equal(got, b) {
			t.Fatalf("on channel %d %x becomes %x", channel, b, got)
		}
	}
}

func TestP4_4ApplyOfABeginning(t *testing.T) {
	random := rand.New(rand.NewSource(3))
	for channel := range api.Channels {
		b := randomBytes(random, 260)
		all := whiten.Apply(channel, b)
		for n := range len(b) + 1 {
			if got := whiten.Apply(channel, b[:n]); !bytes.Equal(got, all[:n]) {
				t.Fatalf("of %d bytes on channel %d: %x, want %x", n, channel, got, all[:n])
			}
		}
	}
}

func TestP4_5RegisterReturnsAfter127Steps(t *testing.T) {
	for channel := range api.Channels {
		first := whiten.State(channel, 0)
		for n := 1; n < 3*127; n++ {
			got := whiten.State(channel, n)
			if got <= 0 || got > 127 {
				t.Fatalf("State(%d, %d) = %d", channel, n, got)
			}
			if (got == first) != (n%127 == 0) {
				t.Fatalf("State(%d, %d) = %d, and the first one is %d", channel, n, got, first)
			}
		}
	}
}

func TestP4_6BurstsAreFoundAfterWhitening(t *testing.T) {
	random := rand.New(rand.NewSource(4))
	for size := range 6 {
		channel, init := random.Intn(api.Channels), random.Uint32()
		sent := whiten.Apply(channel, crc.Append(init, randomBytes(random, size)))
		for start := range 8 * len(sent) {
			for _, burst := range bursts(random) {
				received, inverted := invert(sent, start, burst)
				if !inverted {
					continue
				}
				if _, e := crc.Check(init, whiten.Apply(channel, received)); e != api.ErrChecksum {
					t.Fatalf("%06x inverted from bit %d of %x on channel %d: %v", burst, start, sent, channel, e)
				}
			}
		}
		if _, e := crc.Check(init, whiten.Apply(channel, sent)); e != api.OK {
			t.Fatalf("nothing inverted in %x: %v", sent, e)
		}
	}
}

// bursts returns numbers of 24 bits: those with one or two bits, and others by chance.
func bursts(random *rand.Rand) []uint32 {
	var l []uint32
	for i := range 24 {
		for j := range i + 1 {
			l = append(l, 1<<i|1<<j)
		}
	}
	for range 200 {
		l = append(l, random.Uint32()&0xffffff)
	}
	return append(l, 0xffffff)
}

// invert returns b with the bits of burst inverted from a bit on, and whether there were any.
func invert(b []byte, start int, burst uint32) ([]byte, bool) {
	wrong := slices.Clone(b)
	for i := range 24 {
		at := start + i
		if burst>>i&1 == 1 && at < 8*len(b) {
			wrong[at/8] ^= 1 << (at % 8)
		}
	}
	return wrong, !bytes.Equal(wrong, b)
}

// steps follows the definition of a step n times, for a channel from 0 to 39; it returns the registers before the first and after each step, and the whole bytes of the sequence.
func steps(channel, n int) ([]int, []byte) {
	register := 64 + channel
	registers := []int{register}
	sequence := make([]byte, n/8)
	for i := range 8 * (n / 8) {
		bit := register / 64
		register = 2 * register % 128
		if bit == 1 {
			register ^= 17
			sequence[i/8] |= 1 << (i % 8)
		}
		registers = append(registers, register)
	}
	return registers, sequence
}

func randomBytes(random *rand.Rand, size int) []byte {
	b := make([]byte, size)
	for i := range b {
		b[i] = byte(random.Intn(256))
	}
	return b
}
