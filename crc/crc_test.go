package crc_test

import (
	"bytes"
	"math"
	"math/rand"
	"slices"
	"testing"

	"wireless/api"
	"wireless/crc"
)

// inits are first values of the register, with and without bits above the lowest 24.
var inits = []uint32{0, 1, 2, 15, 16, 128, 255, 256, 0x555555, 0x800000, 0xda6000, 0xfffffe, 0xffffff, 0x1000000, 0x1000001, 0x7fffffff, 0x80000000, 0xff000000, 0xffffffff}

func TestP3_1SumExamples(t *testing.T) {
	for _, c := range []struct {
		init uint32
		b    []byte
		want uint32
	}{
		{0x555555, nil, 0x555555}, {0x555555, []byte{}, 0x555555}, {0x1000000, nil, 0}, {0xffffffff, nil, 0xffffff},
		{0, []byte{0x80}, 0xda6000}, {0, []byte{1}, 0x01b4c0}, {1, []byte{0}, 0x01b4c0}, {1, []byte{1}, 0}, {0, []byte{0}, 0},
		{0, []byte{0, 0, 0x80}, 0xda6000}, {0x800000, []byte{0}, 0x8000}, {0x8000, []byte{0}, 0x80}, {0x80, []byte{0}, 0xda6000},
	} {
		if got := crc.Sum(c.init, c.b); got != c.want {
			t.Errorf("Sum(%06x, %x) = %06x, want %06x", c.init, c.b, got, c.want)
		}
	}
}

func TestP3_1SumFeedsEachBit(t *testing.T) {
	random := rand.New(rand.NewSource(1))
	for _, init := range inits {
		for c := range 256 {
			b := []byte{byte(c)}
			if got, want := crc.Sum(init, b), fed(init, b); got != want {
				t.Fatalf("Sum(%x, %x) = %06x, want %06x", init, b, got, want)
			}
		}
		for size := range 40 {
			b := randomBytes(random, size)
			if got, want := crc.Sum(init, b), fed(init, b); got != want {
				t.Fatalf("Sum(%x, %x) = %06x, want %06x", init, b, got, want)
			}
		}
	}
}

func TestP3_1SumIsNotLimited(t *testing.T) {
	b := randomBytes(rand.New(rand.NewSource(2)), api.MaxBytes+9)
	for _, size := range []int{api.MaxBytes - 1, api.MaxBytes, api.MaxBytes + 1, api.MaxBytes + 9} {
		if got, want := crc.Sum(0x555555, b[:size]), fed(0x555555, b[:size]); got != want {
			t.Errorf("of %d bytes: %06x, want %06x", size, got, want)
		}
	}
}

func TestP3_1SumIgnoresHighBitsOfInit(t *testing.T) {
	for _, b := range [][]byte{nil, {0}, {1, 2, 3, 4, 5}} {
		for _, high := range []uint32{1 << 24, 1 << 31, 0xff << 24} {
			for _, init := range inits {
				if got, want := crc.Sum(init|high, b), crc.Sum(init&0xffffff, b); got != want {
					t.Errorf("Sum(%x, %x) = %06x, want %06x", init|high, b, got, want)
				}
			}
		}
	}
}

func TestP3_2ShiftExamples(t *testing.T) {
	for _, c := range []struct {
		state uint32
		n     int
		want  uint32
	}{
		{1, 1, 0x01b4c0}, {1, 0, 1}, {0, 1, 0}, {0, api.MaxBytes, 0}, {0x800000, 1, 0x8000}, {0x800000, 2, 0x80}, {0x800000, 3, 0xda6000}, {0x1000001, 1, 0x01b4c0}, {0xff000000, 5, 0}, {0xffffffff, 0, 0xffffff},
	} {
		if got := crc.Shift(c.state, c.n); got != c.want {
			t.Errorf("Shift(%06x, %d) = %06x, want %06x", c.state, c.n, got, c.want)
		}
	}
}

func TestP3_2ShiftFeedsZeros(t *testing.T) {
	zeros := make([]byte, api.MaxBytes)
	for _, state := range inits {
		for _, n := range []int{0, 1, 2, 3, 4, 7, 8, 100, 251, 65534, 65535, 65536} {
			if got, want := crc.Shift(state, n), fed(state, zeros[:n]); got != want {
				t.Errorf("Shift(%x, %d) = %06x, want %06x", state, n, got, want)
			}
		}
	}
}

func TestP3_2ShiftLimitsN(t *testing.T) {
	most := fed(0x555555, make([]byte, api.MaxBytes))
	if most == fed(0x555555, make([]byte, api.MaxBytes+1)) {
		t.Fatal("the register does not tell the lengths apart")
	}
	for _, n := range []int{api.MaxBytes + 1, api.MaxBytes + 2, 2 * api.MaxBytes, math.MaxInt32, math.MaxInt} {
		if got := crc.Shift(0x555555, n); got != most {
			t.Errorf("Shift(555555, %d) = %06x, want %06x", n, got, most)
		}
	}
	for _, n := range []int{-1, -2, -api.MaxBytes, math.MinInt32, math.MinInt} {
		if got := crc.Shift(0x1555555, n); got != 0x555555 {
			t.Errorf("Shift(1555555, %d) = %06x, want 555555", n, got)
		}
	}
}

func TestP3_3AppendExamples(t *testing.T) {
	for _, c := range []struct {
		init uint32
		b    []byte
		want []byte
	}{
		{0, []byte{0x80}, []byte{0x80, 0x00, 0x60, 0xda}},
		{0x563412, nil, []byte{0x12, 0x34, 0x56}},
		{0xff563412, []byte{}, []byte{0x12, 0x34, 0x56}},
		{0, []byte{1}, []byte{1, 0xc0, 0xb4, 0x01}},
		{0, []byte{0, 0}, []byte{0, 0, 0, 0, 0}},
	} {
		if got := crc.Append(c.init, c.b); !bytes.Equal(got, c.want) {
			t.Errorf("Append(%x, %x) = %x, want %x", c.init, c.b, got, c.want)
		}
	}
}

func TestP3_3AppendAddsTheSum(t *testing.T) {
	random := rand.New(rand.NewSource(3))
	for _, init := range inits {
		for size := range 30 {
			b := randomBytes(random, size)
			sum := fed(init, b)
			want := slices.Concat(b, []byte{byte(sum), byte(sum >> 8), byte(sum >> 16)})
			if got := crc.Append(init, b); !bytes.Equal(got, want) {
				t.Fatalf("Append(%x, %x) = %x, want %x", init, b, got, want)
			}
		}
	}
}

func TestP3_3AppendReturnsNewMemory(t *testing.T) {
	memory := []byte{1, 2, 3, 4, 5, 6, 7, 8}
	before := slices.Clone(memory)
	got := crc.Append(7, memory[:4])
	if !bytes.Equal(memory, before) {
		t.Fatalf("the argument became %v", memory)
	}
	want := slices.Clone(got)
	clear(memory)
	if !bytes.Equal(got, want) {
		t.Error("the result shares memory with the argument")
	}
}

func TestP3_4CheckExamples(t *testing.T) {
	for _, c := range []struct {
		init uint32
		b    []byte
		want []byte
		e    api.Errno
	}{
		{0, []byte{0x80, 0x00, 0x60, 0xda}, []byte{0x80}, api.OK},
		{0, []byte{0x80, 0x00, 0x60, 0xdb}, nil, api.ErrChecksum},
		{0, []byte{0x80, 0x00}, nil, api.ErrTruncated},
		{0, []byte{0x80}, nil, api.ErrTruncated},
		{0, nil, nil, api.ErrTruncated},
		{0, []byte{0, 0}, nil, api.ErrTruncated}, // although the register stays 0
		{0, []byte{0, 0, 0}, nil, api.OK},
		{1, []byte{0, 0, 0}, nil, api.ErrChecksum},
		{0x563412, []byte{0x12, 0x34, 0x56}, nil, api.OK},
		{0xff563412, []byte{0x12, 0x34, 0x56}, nil, api.OK},
		{0x563412, []byte{0x56, 0x34, 0x12}, nil, api.ErrChecksum}, // the most significant byte first
		{0, []byte{0x80, 0xda, 0x60, 0x00}, nil, api.ErrChecksum},
		{0, []byte{0x00, 0x60, 0xda, 0x80}, nil, api.ErrChecksum},          // before the bytes
		{1, []byte{0x80, 0x00, 0x60, 0xda}, nil, api.ErrChecksum},          // another first value
		{0, []byte{0x80, 0x00, 0x60, 0xda, 0}, []byte{0x80, 0x00}, api.OK}, // a byte 0 shifts the register by eight bits
		{0, []byte{0x80, 0x00, 0x60, 0xda, 1}, nil, api.ErrChecksum},
		{0, []byte{0x80, 0x00, 0x60, 0xda, 0, 0, 0}, []byte{0x80, 0x00, 0x60, 0xda}, api.OK},
	} {
		if got, e := crc.Check(c.init, c.b); e != c.e || !bytes.Equal(got, c.want) {
			t.Errorf("Check(%x, %x) = %x, %v, want %x, %v", c.init, c.b, got, e, c.want, c.e)
		}
	}
}

func TestP3_4CheckUndoesAppend(t *testing.T) {
	random := rand.New(rand.NewSource(4))
	for _, init := range inits {
		for size := range 30 {
			b := randomBytes(random, size)
			if got, e := crc.Check(init, crc.Append(init, b)); e != api.OK || !bytes.Equal(got, b) {
				t.Fatalf("of Append(%x, %x): %x, %v", init, b, got, e)
			}
		}
	}
}

func TestP3_4CheckTakesOneChecksumOnly(t *testing.T) {
	b := crc.Append(0xabcdef, []byte{1, 2, 3})
	for i := 3; i < 6; i++ {
		for change := 1; change < 256; change++ {
			wrong := slices.Clone(b)
			wrong[i] ^= byte(change)
			if got, e := crc.Check(0xabcdef, wrong); e != api.ErrChecksum || len(got) != 0 {
				t.Fatalf("Check(abcdef, %x) = %x, %v", wrong, got, e)
			}
		}
	}
}

func TestP3_4CheckReturnsNewMemory(t *testing.T) {
	b := crc.Append(7, []byte{1, 2, 3, 4})
	before := slices.Clone(b)
	got, e := crc.Check(7, b)
	if e != api.OK {
		t.Fatal(e)
	}
	clear(got[:cap(got)])
	if !bytes.Equal(b, before) {
		t.Error("the result shares memory with the argument")
	}
}

func TestP3_5SumIsContinued(t *testing.T) {
	random := rand.New(rand.NewSource(5))
	for _, init := range inits {
		for size := range 12 {
			b := randomBytes(random, size)
			for cut := range size + 1 {
				if got, want := crc.Sum(crc.Sum(init, b[:cut]), b[cut:]), crc.Sum(init, b); got != want {
					t.Fatalf("%x cut at %d: %06x, want %06x", b, cut, got, want)
				}
			}
		}
	}
}

func TestP3_5SumWithChecksumIsZero(t *testing.T) {
	random := rand.New(rand.NewSource(6))
	for _, init := range inits {
		for size := range 40 {
			b := crc.Append(init, randomBytes(random, size))
			if got := crc.Sum(init, b); got != 0 {
				t.Fatalf("Sum(%x, %x) = %06x", init, b, got)
			}
		}
	}
}

func TestP3_6SumIsLinear(t *testing.T) {
	random := rand.New(rand.NewSource(7))
	for _, s := range inits {
		for _, u := range inits {
			for size := range 10 {
				a, b := randomBytes(random, size), randomBytes(random, size)
				x := make([]byte, size)
				for i := range x {
					x[i] = a[i] ^ b[i]
				}
				if got, want := crc.Sum(s^u, x), crc.Sum(s, a)^crc.Sum(u, b); got != want {
					t.Fatalf("Sum(%x, %x) = %06x, want %06x", s^u, x, got, want)
				}
			}
		}
	}
}

func TestP3_6SumIsShiftAndSum(t *testing.T) {
	random := rand.New(rand.NewSource(8))
	for _, size := range []int{0, 1, 2, 3, 10, 251, api.MaxBytes - 1, api.MaxBytes} {
		b := randomBytes(random, size)
		for _, init := range inits {
			if got, want := crc.Shift(init, size)^crc.Sum(0, b), crc.Sum(init, b); got != want {
				t.Fatalf("of %d bytes from %x: %06x, want %06x", size, init, got, want)
			}
		}
	}
}

func TestP3_7BurstsAreFound(t *testing.T) {
	random := rand.New(rand.NewSource(9))
	for size := range 8 {
		init := inits[random.Intn(len(inits))]
		packet := crc.Append(init, randomBytes(random, size))
		for start := range 8 * len(packet) {
			for _, burst := range bursts(random) {
				wrong, inverted := invert(packet, start, burst)
				if !inverted {
					continue
				}
				if got, e := crc.Check(init, wrong); e != api.ErrChecksum || len(got) != 0 {
					t.Fatalf("%06x inverted from bit %d of %x: %x, %v", burst, start, packet, got, e)
				}
			}
		}
	}
}

// bursts returns numbers of 24 bits: those with one or two bits, those of few bits, and others by chance.
func bursts(random *rand.Rand) []uint32 {
	var l []uint32
	for i := range 24 {
		for j := range i + 1 {
			l = append(l, 1<<i|1<<j, 1<<(i+1)-1<<j)
		}
	}
	for n := range uint32(256) {
		l = append(l, n, n<<16)
	}
	for range 200 {
		l = append(l, random.Uint32()&0xffffff)
	}
	return append(l, 0xffffff, 0xda6000, 0xda6000>>13, 0x800001)
}

// invert returns b with the bits of burst inverted from a bit on, and whether there were any.
func invert(b []byte, start int, burst uint32) ([]byte, bool) {
	wrong := slices.Clone(b)
	for i := range 24 {
		at := start + i
		if burst>>i&1 == 1 && at < 8*len(b) {
			wrong[at/8] ^= 1 << (at % 8)
		}
	}
	return wrong, !bytes.Equal(wrong, b)
}

// fed follows the definition of the register bit by bit.
func fed(init uint32, b []byte) uint32 {
	register := init % (1 << 24)
	for i := range 8 * len(b) {
		bit := uint32(b[i/8]>>(i%8)) & 1
		x := bit ^ register&1
		register /= 2
		if x == 1 {
			register ^= 0xda6000
		}
	}
	return register
}

func randomBytes(random *rand.Rand, size int) []byte {
	b := make([]byte, size)
	for i := range b {
		b[i] = byte(random.Intn(256))
	}
	return b
}
