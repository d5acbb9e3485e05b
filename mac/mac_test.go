package mac_test

import (
	"bytes"
	"encoding/binary"
	"encoding/hex"
	"math"
	"math/rand"
	"slices"
	"testing"

	"wireless/api"
	"wireless/block"
	"wireless/mac"
)

// someKey is a key with many different bits.
const someKey api.Key = 0x0123456789abcdef

// keys are keys around which mistakes are likely.
var keys = []api.Key{0, 1, 3, 9, 1<<32 - 1, 1 << 32, 1 << 63, 1<<64 - 1, someKey}

// nonces are nonces around which mistakes are likely.
var nonces = []uint64{0, 1, 4, 255, 256, 1<<32 - 1, 1 << 32, 1 << 56, 1 << 63, 1<<64 - 1, 0xfedcba9876543210}

// sizes are numbers of bytes around which mistakes are likely.
var sizes = []int{0, 1, 2, 3, 4, 5, 7, 8, 9, 11, 12, 13, 15, 16, 17, 23, 24, 25, 63, 64, 65, 251, 255, 256, 257}

func TestP6_1TagExamples(t *testing.T) {
	for _, c := range []struct {
		k    api.Key
		b    []byte
		want uint64
	}{
		{0, nil, 0}, {0, []byte{}, 0}, {5, nil, 0xbc87420e8fbbe0f1}, {5, nil, block.Mix(5, 0)}, {0, []byte{0}, 0x55dc6b62b7184389},
		{7, []byte{1}, block.Mix(7, block.Mix(7, 1)^1)}, {7, []byte{0, 1}, block.Mix(7, block.Mix(7, 2)^256)},
		{someKey, []byte("a"), 0x2e9feb0554ff3e4f}, {someKey, []byte("12345678"), 0x8ba1481cf999c687}, {someKey, []byte("123456789"), 0xaf01da6c5d34644c},
		{someKey, ascending(20), 0x14490588ef87cb77}, {1<<64 - 1, bytes.Repeat([]byte{255}, 16), 0x6cd9af6d66784376},
	} {
		if got := mac.Tag(c.k, c.b); got != c.want {
			t.Errorf("Tag(%x, %x) = %x, want %x", c.k, c.b, got, c.want)
		}
	}
}

func TestP6_1TagFollowsTheDefinition(t *testing.T) {
	random := rand.New(rand.NewSource(1))
	for _, k := range keys {
		for _, size := range append([]int{api.MaxBytes - 1, api.MaxBytes, api.MaxBytes + 9}, sizes...) {
			b := randomBytes(random, size)
			if got, want := mac.Tag(k, b), tag(k, b); got != want {
				t.Fatalf("Tag(%x, %d bytes) = %x, want %x", k, size, got, want)
			}
		}
	}
}

func TestP6_1TagCountsZeros(t *testing.T) {
	tags := map[uint64]int{}
	for size := range 40 {
		x := mac.Tag(someKey, make([]byte, size))
		if other, found := tags[x]; found {
			t.Errorf("%d and %d zeros have the same tag", other, size)
		}
		tags[x] = size
	}
}

func TestP6_1TagIgnoresSpareCapacity(t *testing.T) {
	b := ascending(16)
	for size := range 16 {
		if got, want := mac.Tag(someKey, b[:size]), mac.Tag(someKey, slices.Clip(ascending(size))); got != want {
			t.Errorf("Tag of %d bytes with others behind them = %x, want %x", size, got, want)
		}
	}
	if !bytes.Equal(b, ascending(16)) {
		t.Errorf("the argument became %x", b)
	}
}

func TestP6_2DeriveExamples(t *testing.T) {
	for _, c := range []struct {
		k     api.Key
		label string
		parts []uint64
		want  api.Key
	}{
		{0, "", nil, 0x55dc6b62b7184389}, {someKey, "", nil, 0xf6475e6f2cbd3e4b}, {someKey, "a", []uint64{5}, 0xcadef055b6112e53},
		{someKey, "label", []uint64{1, 2, 3}, 0x0c82e931149028be}, {someKey, "a", []uint64{1<<64 - 1, 0}, 0xf8d12f72ecd81b2c}, {1<<64 - 1, "a\x00", nil, 0x70d3fa6ed981371c},
		{someKey, "a", []uint64{5}, api.Key(mac.Tag(someKey, []byte{0x61, 0, 5, 0, 0, 0, 0, 0, 0, 0}))},
	} {
		if got := mac.Derive(c.k, c.label, c.parts...); got != c.want {
			t.Errorf("Derive(%x, %q, %v) = %x, want %x", c.k, c.label, c.parts, got, c.want)
		}
	}
}

func TestP6_2DeriveIsATag(t *testing.T) {
	random := rand.New(rand.NewSource(2))
	for _, label := range []string{"", "a", "b", "ab", "1234567", "12345678", "\x00", "a\x00b", "\xff\xfe", "é", "a long label of more than eight bytes"} {
		for count := range 6 {
			parts := randomParts(random, count)
			before := slices.Clone(parts)
			want := append([]byte(label), 0)
			for _, part := range parts {
				want = binary.LittleEndian.AppendUint64(want, part)
			}
			for _, k := range keys {
				if got := mac.Derive(k, label, parts...); got != api.Key(tag(k, want)) {
					t.Fatalf("Derive(%x, %q, %v) = %x, want the tag of %x", k, label, parts, got, want)
				}
			}
			if !slices.Equal(parts, before) {
				t.Fatalf("the numbers became %v", parts)
			}
		}
	}
}

func TestP6_3StreamExamples(t *testing.T) {
	for _, c := range []struct {
		k     api.Key
		nonce uint64
		n     int
		want  string
	}{
		{0, 0, 10, "0000000000000000834a"}, {someKey, 7, 20, "b1c2934628d72e0f7b3a0d6c0b1defbac1b3492d"}, {1<<64 - 1, 1<<64 - 1, 9, "6ef0a09ba10a11a695"}, {3, 4, 8, "3339e72ac73fcb69"}, {3, 4, 1, "33"},
		{3, 4, 0, ""}, {3, 4, -1, ""}, {someKey, 1, -1, ""},
	} {
		if got := hex.EncodeToString(mac.Stream(c.k, c.nonce, c.n)); got != c.want {
			t.Errorf("Stream(%x, %x, %d) = %s, want %s", c.k, c.nonce, c.n, got, c.want)
		}
	}
}

func TestP6_3StreamFollowsTheDefinition(t *testing.T) {
	for _, k := range keys {
		for _, nonce := range nonces {
			want := keyStream(k, nonce, 300)
			for _, n := range sizes {
				if got := mac.Stream(k, nonce, n); !bytes.Equal(got, want[:n]) {
					t.Fatalf("Stream(%x, %x, %d) = %x, want %x", k, nonce, n, got, want[:n])
				}
			}
		}
	}
}

func TestP6_3StreamCountsModulo2To64(t *testing.T) {
	for _, k := range keys {
		for before := range uint64(4) {
			nonce := block.Unmix(k, -before)
			if got, want := mac.Stream(k, nonce, 64), keyStream(k, nonce, 64); !bytes.Equal(got, want) {
				t.Errorf("Stream(%x, %x, 64) = %x, want %x", k, nonce, got, want)
			}
		}
	}
}

func TestP6_3StreamLimitsN(t *testing.T) {
	want := keyStream(someKey, 17, api.MaxBytes)
	for _, n := range []int{api.MaxBytes, api.MaxBytes + 1, api.MaxBytes + 8, 2 * api.MaxBytes, math.MaxInt32, math.MaxInt - 7, math.MaxInt} {
		if got := mac.Stream(someKey, 17, n); !bytes.Equal(got, want) {
			t.Errorf("Stream of %d bytes has %d", n, len(got))
		}
	}
	if got := mac.Stream(someKey, 17, api.MaxBytes-1); !bytes.Equal(got, want[:api.MaxBytes-1]) {
		t.Errorf("one byte less: %d bytes", len(got))
	}
	for _, n := range []int{0, -1, -8, -api.MaxBytes, math.MinInt32, math.MinInt} {
		if got := mac.Stream(someKey, 17, n); len(got) != 0 {
			t.Errorf("Stream of %d bytes has %d", n, len(got))
		}
	}
}

func TestP6_4SealExamples(t *testing.T) {
	for _, c := range []struct {
		k             api.Key
		nonce         uint64
		header, plain []byte
		want          string
	}{
		{0, 0, nil, nil, "54b05269"}, {0, 0, []byte{}, []byte{}, "54b05269"}, {3, 4, []byte{1}, []byte{5, 6}, "363ff38f2418"},
		{someKey, 1<<64 - 1, nil, []byte("hello world"), "32e7bca9b455248a8bdfee79f17649"}, {someKey, 9, []byte("header"), ascending(16), "001146ac171d201bf81fc914af1f71a1fd882d1a"},
	} {
		if got := hex.EncodeToString(mac.Seal(c.k, c.nonce, c.header, c.plain)); got != c.want {
			t.Errorf("Seal(%x, %x, %x, %x) = %s, want %s", c.k, c.nonce, c.header, c.plain, got, c.want)
		}
	}
}

func TestP6_4SealFollowsTheDefinition(t *testing.T) {
	random := rand.New(rand.NewSource(3))
	for _, headerSize := range sizes {
		for _, size := range sizes {
			k, nonce := api.Key(random.Uint64()), random.Uint64()
			header, plain := randomBytes(random, headerSize), randomBytes(random, size)
			if got, want := mac.Seal(k, nonce, header, plain), seal(k, nonce, header, plain); !bytes.Equal(got, want) {
				t.Fatalf("Seal(%x, %x, %x, %x) = %x, want %x", k, nonce, header, plain, got, want)
			}
		}
	}
	for _, k := range keys {
		for _, nonce := range nonces {
			if got, want := mac.Seal(k, nonce, ascending(3), ascending(21)), seal(k, nonce, ascending(3), ascending(21)); !bytes.Equal(got, want) {
				t.Fatalf("Seal(%x, %x) = %x, want %x", k, nonce, got, want)
			}
		}
	}
}

func TestP6_4SealAndOpenAreNotLimited(t *testing.T) {
	random := rand.New(rand.NewSource(4))
	for _, size := range []int{api.MaxBytes - 1, api.MaxBytes, api.MaxBytes + 1, api.MaxBytes + 300} {
		header, plain := randomBytes(random, size), randomBytes(random, size)
		sealed := mac.Seal(someKey, 5, header, plain)
		if !bytes.Equal(sealed, seal(someKey, 5, header, plain)) {
			t.Errorf("of %d bytes: %d bytes sealed wrongly", size, len(sealed))
		}
		if got, e := mac.Open(someKey, 5, header, sealed); e != api.OK || !bytes.Equal(got, plain) {
			t.Errorf("of %d bytes: %d bytes opened, %v", size, len(got), e)
		}
	}
}

func TestP6_4SealReturnsNewMemory(t *testing.T) {
	header, plain := ascending(12), ascending(40)
	for _, size := range []int{0, 1, 8, 20} {
		got := mac.Seal(someKey, 1, header[:4], plain[:size])
		clear(got[:cap(got)])
		if !bytes.Equal(header, ascending(12)) || !bytes.Equal(plain, ascending(40)) {
			t.Fatalf("an argument was changed: %x, %x", header, plain)
		}
	}
}

func TestP6_5OpenExamples(t *testing.T) {
	for _, c := range []struct {
		k              api.Key
		nonce          uint64
		header, sealed []byte
		want           []byte
		e              api.Errno
	}{
		{3, 4, nil, []byte{1, 2, 3}, nil, api.ErrTruncated}, {3, 4, nil, nil, nil, api.ErrTruncated}, {3, 4, []byte{1}, []byte{0x36}, nil, api.ErrTruncated},
		{3, 4, []byte{1}, []byte{0x36, 0x3f, 0xf3, 0x8f, 0x24, 0x18}, []byte{5, 6}, api.OK},
		{3, 4, []byte{1}, []byte{0x36, 0x3f, 0xf3, 0x8f, 0x24, 0x19}, nil, api.ErrAuth}, {3, 4, []byte{1}, []byte{0x37, 0x3f, 0xf3, 0x8f, 0x24, 0x18}, nil, api.ErrAuth},
		{3, 4, []byte{1}, []byte{0x36, 0x3f, 0xf3, 0x8f, 0x24}, nil, api.ErrAuth}, {3, 4, []byte{1}, []byte{0x36, 0x3f, 0xf3, 0x8f, 0x24, 0x18, 0}, nil, api.ErrAuth},
		{0, 0, nil, []byte{0x54, 0xb0, 0x52, 0x69}, nil, api.OK}, {0, 0, nil, []byte{0, 0, 0, 0}, nil, api.ErrAuth}, {0, 0, nil, []byte{0x69, 0x52, 0xb0, 0x54}, nil, api.ErrAuth},
	} {
		got, e := mac.Open(c.k, c.nonce, c.header, c.sealed)
		if e != c.e || !bytes.Equal(got, c.want) {
			t.Errorf("Open(%x, %x, %x, %x) = %x, %v", c.k, c.nonce, c.header, c.sealed, got, e)
		}
	}
}

func TestP6_5OpenNeedsTheSameArguments(t *testing.T) {
	header, plain := ascending(5), ascending(20)
	sealed := mac.Seal(someKey, 9, header, plain)
	for name, open := range map[string]func() ([]byte, api.Errno){
		"another key":      func() ([]byte, api.Errno) { return mac.Open(someKey+1, 9, header, sealed) },
		"another nonce":    func() ([]byte, api.Errno) { return mac.Open(someKey, 8, header, sealed) },
		"a high nonce":     func() ([]byte, api.Errno) { return mac.Open(someKey, 9+1<<63, header, sealed) },
		"another header":   func() ([]byte, api.Errno) { return mac.Open(someKey, 9, []byte{0, 1, 2, 3, 5}, sealed) },
		"a shorter header": func() ([]byte, api.Errno) { return mac.Open(someKey, 9, header[:4], sealed) },
		"a longer header":  func() ([]byte, api.Errno) { return mac.Open(someKey, 9, ascending(6), sealed) },
		"no header":        func() ([]byte, api.Errno) { return mac.Open(someKey, 9, nil, sealed) },
		"a moved header":   func() ([]byte, api.Errno) { return mac.Open(someKey, 9, nil, append(ascending(5), sealed...)) },
		"fewer bytes":      func() ([]byte, api.Errno) { return mac.Open(someKey, 9, header, sealed[1:]) },
		"no end":           func() ([]byte, api.Errno) { return mac.Open(someKey, 9, header, sealed[:20]) },
	} {
		if got, e := open(); e != api.ErrAuth || len(got) != 0 {
			t.Errorf("with %s: %x, %v", name, got, e)
		}
	}
	if got, e := mac.Open(someKey, 9, header, sealed); e != api.OK || !bytes.Equal(got, plain) {
		t.Errorf("with the same arguments: %x, %v", got, e)
	}
}

func TestP6_5OpenReturnsNewMemory(t *testing.T) {
	for _, size := range []int{0, 1, 8, 20} {
		header, sealed := ascending(12), append(mac.Seal(someKey, 1, ascending(4), ascending(size)), 7, 7, 7)
		before := slices.Clone(sealed)
		got, e := mac.Open(someKey, 1, header[:4], sealed[:size+4])
		if e != api.OK {
			t.Fatal(e)
		}
		clear(got[:cap(got)])
		if !bytes.Equal(header, ascending(12)) || !bytes.Equal(sealed, before) {
			t.Fatalf("an argument was changed: %x, %x", header, sealed)
		}
	}
}

func TestP6_6OpenReturnsWhatSealWasGiven(t *testing.T) {
	random := rand.New(rand.NewSource(5))
	for _, size := range sizes {
		for _, headerSize := range []int{0, 1, 2, 4, 8, 9, 30} {
			k, nonce := api.Key(random.Uint64()), random.Uint64()
			header, plain := randomBytes(random, headerSize), randomBytes(random, size)
			sealed := mac.Seal(k, nonce, header, plain)
			if len(sealed) != size+4 {
				t.Fatalf("of %d bytes: %d bytes sealed", size, len(sealed))
			}
			if got, e := mac.Open(k, nonce, header, sealed); e != api.OK || !bytes.Equal(got, plain) {
				t.Fatalf("Open(%x, %x, %x, %x) = %x, %v, want %x", k, nonce, header, sealed, got, e, plain)
			}
		}
	}
}

func TestP6_6WhatOpenAcceptsIsSealed(t *testing.T) {
	random := rand.New(rand.NewSource(6))
	for _, size := range sizes {
		k, nonce, header := api.Key(random.Uint64()), random.Uint64(), randomBytes(random, 3)
		accepted := ended(k, nonce, header, randomBytes(random, size))
		plain, e := mac.Open(k, nonce, header, accepted)
		if e != api.OK {
			t.Fatalf("Open(%x, %x, %x, %x): %v", k, nonce, header, accepted, e)
		}
		if got := mac.Seal(k, nonce, header, plain); !bytes.Equal(got, accepted) {
			t.Fatalf("%x is accepted, and its plain bytes are sealed as %x", accepted, got)
		}
	}
}

func TestP6_7OneGroupChangesTheTag(t *testing.T) {
	random := rand.New(rand.NewSource(7))
	for _, size := range sizes[1:] {
		b := randomBytes(random, size)
		k := api.Key(random.Uint64())
		want := mac.Tag(k, b)
		for start := 0; start < size; start += 8 {
			for range 20 {
				other := slices.Clone(b)
				group := other[start:min(start+8, size)]
				group[random.Intn(len(group))] ^= byte(1 + random.Intn(255))
				group[random.Intn(len(group))]++
				if !bytes.Equal(other, b) && mac.Tag(k, other) == want {
					t.Fatalf("Tag(%x) is the same for %x and %x", k, b, other)
				}
			}
		}
	}
}

func TestP6_8ChangedBytesAreFound(t *testing.T) {
	random := rand.New(rand.NewSource(8))
	for _, size := range []int{0, 1, 7, 8, 9, 21} {
		k, nonce, header := api.Key(random.Uint64()), random.Uint64(), randomBytes(random, 2)
		sealed := mac.Seal(k, nonce, header, randomBytes(random, size))
		for at := range sealed {
			for change := 1; change < 256; change++ {
				changed := slices.Clone(sealed)
				changed[at] ^= byte(change)
				coincidence := at < size && bytes.Equal(changed, ended(k, nonce, header, changed[:size]))
				got, e := mac.Open(k, nonce, header, changed)
				if !coincidence && (e != api.ErrAuth || len(got) != 0) {
					t.Fatalf("Open(%x, %x, %x, %x) = %x, %v", k, nonce, header, changed, got, e)
				}
			}
		}
	}
}

func TestP6_9StreamsAreBeginnings(t *testing.T) {
	for _, k := range keys {
		for _, nonce := range nonces {
			long := mac.Stream(k, nonce, 200)
			for n := range 201 {
				if got := mac.Stream(k, nonce, n); !bytes.Equal(got, long[:n]) {
					t.Fatalf("Stream(%x, %x, %d) = %x, and the longer one begins with %x", k, nonce, n, got, long[:n])
				}
			}
		}
	}
	long := mac.Stream(someKey, 3, api.MaxBytes+5)
	for _, n := range []int{-5, 0, 4097, api.MaxBytes - 1, api.MaxBytes, math.MaxInt} {
		if got := mac.Stream(someKey, 3, n); !bytes.HasPrefix(long, got) {
			t.Errorf("Stream of %d bytes is not the beginning of a longer one", n)
		}
	}
}

// tag follows the promise of Tag.
func tag(k api.Key, b []byte) uint64 {
	x := block.Mix(k, uint64(len(b)))
	filled := append(slices.Clone(b), make([]byte, (8-len(b)%8)%8)...)
	for i := 0; i < len(filled); i += 8 {
		x = block.Mix(k, x^binary.LittleEndian.Uint64(filled[i:]))
	}
	return x
}

// keyStream follows the definition of the key stream byte by byte.
func keyStream(k api.Key, nonce uint64, n int) []byte {
	b := make([]byte, n)
	for j := range b {
		x := block.Mix(k, block.Mix(k, nonce)+uint64(j/8))
		b[j] = byte(x >> (8 * (j % 8)))
	}
	return b
}

// seal follows the promise of Seal.
func seal(k api.Key, nonce uint64, header, plain []byte) []byte {
	c := keyStream(k, nonce, len(plain))
	for i := range c {
		c[i] ^= plain[i]
	}
	return ended(k, nonce, header, c)
}

// ended returns c with the end that makes it sealed.
func ended(k api.Key, nonce uint64, header, c []byte) []byte {
	input := binary.LittleEndian.AppendUint64(nil, nonce)
	input = binary.LittleEndian.AppendUint32(input, uint32(len(header)))
	input = append(append(input, header...), c...)
	return binary.LittleEndian.AppendUint32(slices.Clone(c), uint32(tag(k, input)))
}

// ascending returns the bytes 0, 1, 2 and so on.
func ascending(n int) []byte {
	b := make([]byte, n)
	for i := range b {
		b[i] = byte(i)
	}
	return b
}

func randomParts(random *rand.Rand, n int) []uint64 {
	parts := make([]uint64, n)
	for i := range parts {
		parts[i] = random.Uint64() >> random.Intn(64)
	}
	return parts
}

func randomBytes(random *rand.Rand, n int) []byte {
	b := make([]byte, n)
	for i := range b {
		b[i] = byte(random.Intn(256))
	}
	return b
}
