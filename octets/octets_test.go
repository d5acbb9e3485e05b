package octets_test

import (
	"bytes"
	"math"
	"math/rand"
	"slices"
	"testing"

	"wireless/api"
	"wireless/octets"
)

func TestP2_1PutExamples(t *testing.T) {
	for _, c := range []struct {
		fields []api.Field
		want   []byte
	}{
		{nil, nil},
		{[]api.Field{{Size: 2, Value: 258}, {Size: 1, Value: 7}}, []byte{2, 1, 7}},
		{[]api.Field{{Size: 1, Value: 7}, {Size: 2, Value: 258}}, []byte{7, 2, 1}},
		{[]api.Field{{Size: 1, Value: 0}}, []byte{0}},
		{[]api.Field{{Size: 4, Value: 1}}, []byte{1, 0, 0, 0}},
		{[]api.Field{{Size: 3, Value: 0xc0b0a0}}, []byte{0xa0, 0xb0, 0xc0}},
		{[]api.Field{{Size: 8, Value: 0x0807060504030201}}, []byte{1, 2, 3, 4, 5, 6, 7, 8}},
		{[]api.Field{{Size: 8, Value: math.MaxUint64}, {Size: 8, Value: 0}}, []byte{255, 255, 255, 255, 255, 255, 255, 255, 0, 0, 0, 0, 0, 0, 0, 0}},
	} {
		if b, e := octets.Put(c.fields...); e != api.OK || !bytes.Equal(b, c.want) {
			t.Errorf("Put(%v) = %v, %v, want %v", c.fields, b, e, c.want)
		}
	}
}

func TestP2_1PutTakesTheGreatestValues(t *testing.T) {
	for size := 1; size <= 8; size++ {
		greatest := uint64(math.MaxUint64) >> (64 - 8*size)
		b, e := octets.Put(api.Field{Size: size, Value: greatest})
		if e != api.OK || !bytes.Equal(b, bytes.Repeat([]byte{255}, size)) {
			t.Errorf("size %d: %v, %v", size, b, e)
		}
		if size == 8 {
			continue
		}
		for _, value := range []uint64{greatest + 1, greatest + 2, 1 << 63, math.MaxUint64} {
			if b, e := octets.Put(api.Field{Size: size, Value: value}); e != api.ErrRange || len(b) != 0 {
				t.Errorf("Put({%d, %d}) = %v, %v", size, value, b, e)
			}
		}
	}
}

// sizes that are not from 1 to 8; some of them are 0 or small if they are multiplied by 8 in 64 bits.
var badSizes = []int{0, -1, -8, 9, 16, 64, 1 << 32, 1 << 60, 1 << 61, 1<<61 + 1, math.MaxInt, math.MinInt, math.MinInt + 1}

func TestP2_1PutRefusesSizes(t *testing.T) {
	for _, size := range badSizes {
		for _, value := range []uint64{0, 1, math.MaxUint64} {
			if b, e := octets.Put(api.Field{Size: size, Value: value}); e != api.ErrRange || len(b) != 0 {
				t.Errorf("Put({%d, %d}) = %v, %v", size, value, b, e)
			}
		}
	}
}

func TestP2_1PutRefusesAnyInvalidField(t *testing.T) {
	valid := api.Field{Size: 1, Value: 7}
	for _, invalid := range []api.Field{{Size: 2, Value: 65536}, {Size: 9}, {Size: 0}} {
		for _, fields := range [][]api.Field{{invalid, valid}, {valid, invalid}, {valid, invalid, valid}} {
			if b, e := octets.Put(fields...); e != api.ErrRange || len(b) != 0 {
				t.Errorf("Put(%v) = %v, %v", fields, b, e)
			}
		}
	}
}

func TestP2_2TakeExamples(t *testing.T) {
	for _, c := range []struct {
		b       []byte
		sizes   []int
		numbers []uint64
		rest    []byte
	}{
		{[]byte{2, 1, 7, 9}, []int{2, 1}, []uint64{258, 7}, []byte{9}},
		{[]byte{2, 1, 7, 9}, []int{1, 2}, []uint64{2, 1793}, []byte{9}},
		{[]byte{2, 1}, []int{2}, []uint64{258}, nil},
		{[]byte{2, 1}, nil, nil, []byte{2, 1}},
		{nil, nil, nil, nil},
		{[]byte{0, 0, 0, 0}, []int{1, 2}, []uint64{0, 0}, []byte{0}},
		{[]byte{0xa0, 0xb0, 0xc0, 1, 2, 3}, []int{3}, []uint64{0xc0b0a0}, []byte{1, 2, 3}},
		{[]byte{1, 2, 3, 4, 5, 6, 7, 8, 255}, []int{8, 1}, []uint64{0x0807060504030201, 255}, nil},
		{[]byte{255, 255, 255, 255, 255, 255, 255, 255}, []int{8}, []uint64{math.MaxUint64}, nil},
	} {
		numbers, rest, e := octets.Take(c.b, c.sizes...)
		if e != api.OK || !slices.Equal(numbers, c.numbers) || !bytes.Equal(rest, c.rest) {
			t.Errorf("Take(%v, %v) = %v, %v, %v", c.b, c.sizes, numbers, rest, e)
		}
	}
}

func TestP2_2TakeRefusesSizes(t *testing.T) {
	long := make([]byte, 40)
	for _, size := range badSizes {
		for _, sizes := range [][]int{{size}, {1, size}, {size, 1}, {8, size, 8}} {
			// A wrong size counts more than too few bytes.
			for _, b := range [][]byte{long, {1}, nil} {
				numbers, rest, e := octets.Take(b, sizes...)
				if e != api.ErrRange || len(numbers) != 0 || len(rest) != 0 {
					t.Errorf("Take(%d bytes, %v) = %v, %v, %v", len(b), sizes, numbers, rest, e)
				}
			}
		}
	}
}

func TestP2_2TakeNeedsAllBytes(t *testing.T) {
	for _, sizes := range [][]int{{1}, {2}, {8}, {2, 1}, {1, 2}, {8, 8, 8}} {
		total := 0
		for _, size := range sizes {
			total += size
		}
		for n := range total + 3 {
			numbers, rest, e := octets.Take(make([]byte, n, total+8), sizes...)
			if n < total && (e != api.ErrTruncated || len(numbers) != 0 || len(rest) != 0) {
				t.Errorf("Take(%d bytes, %v) = %v, %v, %v", n, sizes, numbers, rest, e)
			}
			if n >= total && (e != api.OK || len(numbers) != len(sizes) || len(rest) != n-total) {
				t.Errorf("Take(%d bytes, %v) = %v, %v, %v", n, sizes, numbers, rest, e)
			}
		}
	}
}

func TestP2_2TakeReturnsNewMemory(t *testing.T) {
	for _, sizes := range [][]int{nil, {1}} {
		b := []byte{1, 2, 3, 4}
		_, rest, _ := octets.Take(b[:3], sizes...)
		for i := range rest {
			rest[i] = 99
		}
		_ = append(rest, 99)
		if !bytes.Equal(b, []byte{1, 2, 3, 4}) {
			t.Errorf("sizes %v: the rest shares memory with the argument: %v", sizes, b)
		}
	}
}

func TestP2_3JoinExamples(t *testing.T) {
	for _, c := range []struct {
		parts [][]byte
		want  []byte
	}{
		{nil, nil},
		{[][]byte{nil}, nil},
		{[][]byte{{}, nil, {}}, nil},
		{[][]byte{{1}, nil, {2, 3}}, []byte{1, 2, 3}},
		{[][]byte{{2, 3}, {1}}, []byte{2, 3, 1}},
		{[][]byte{nil, {1}, {1}, {1}}, []byte{1, 1, 1}},
	} {
		if b := octets.Join(c.parts...); !bytes.Equal(b, c.want) {
			t.Errorf("Join(%v) = %v, want %v", c.parts, b, c.want)
		}
	}
}

func TestP2_3JoinReturnsNewMemory(t *testing.T) {
	for _, others := range [][][]byte{nil, {nil}, {{7}}} {
		b := []byte{1, 2, 3, 4}
		joined := octets.Join(append([][]byte{b[:2]}, others...)...)
		for i := range joined {
			joined[i] = 99
		}
		_ = append(joined, 99)
		if !bytes.Equal(b, []byte{1, 2, 3, 4}) {
			t.Errorf("others %v: the argument was changed: %v", others, b)
		}
	}
}

func TestP2_3XorExamples(t *testing.T) {
	for _, c := range []struct{ a, b, want []byte }{
		{[]byte{255, 15}, []byte{15, 255, 1}, []byte{240, 240}},
		{[]byte{15, 255, 1}, []byte{255, 15}, []byte{240, 240}},
		{[]byte{1, 2, 3}, []byte{1, 2, 3}, []byte{0, 0, 0}},
		{[]byte{0xaa, 0x55}, []byte{0, 0xff}, []byte{0xaa, 0xaa}},
		{[]byte{1}, nil, nil},
		{nil, []byte{1}, nil},
		{nil, nil, nil},
	} {
		if x := octets.Xor(c.a, c.b); !bytes.Equal(x, c.want) {
			t.Errorf("Xor(%v, %v) = %v, want %v", c.a, c.b, x, c.want)
		}
	}
}

func TestP2_3XorReturnsNewMemory(t *testing.T) {
	a, b := []byte{1, 2, 3}, []byte{4, 5}
	x := octets.Xor(a, b)
	for i := range x {
		x[i] = 99
	}
	_ = append(x, 99)
	if !bytes.Equal(a, []byte{1, 2, 3}) || !bytes.Equal(b, []byte{4, 5}) {
		t.Errorf("an argument was changed: %v, %v", a, b)
	}
}

func TestP2_4HexExamples(t *testing.T) {
	for _, c := range []struct {
		b    []byte
		text string
	}{
		{nil, ""}, {[]byte{}, ""}, {[]byte{10, 255}, "0aff"}, {[]byte{0}, "00"}, {[]byte{0x12, 0x34, 0x56, 0x78, 0x9a, 0xbc, 0xde, 0xf0}, "123456789abcdef0"},
	} {
		if got := octets.Hex(c.b); got != c.text {
			t.Errorf("Hex(%v) = %q", c.b, got)
		}
		if got, e := octets.Unhex(c.text); e != api.OK || !bytes.Equal(got, c.b) {
			t.Errorf("Unhex(%q) = %v, %v", c.text, got, e)
		}
	}
}

func TestP2_4UnhexTakesOnlyWhatHexWrites(t *testing.T) {
	texts := map[string]byte{}
	for c := range 256 {
		texts[octets.Hex([]byte{byte(c)})] = byte(c)
	}
	if len(texts) != 256 {
		t.Fatalf("%d texts of 256 bytes", len(texts))
	}
	for high := range 256 {
		for low := range 256 {
			s := string([]byte{byte(high), byte(low)})
			want, valid := texts[s]
			b, e := octets.Unhex(s)
			if valid && (e != api.OK || !bytes.Equal(b, []byte{want})) {
				t.Errorf("Unhex(%q) = %v, %v", s, b, e)
			}
			if !valid && (e != api.ErrSyntax || len(b) != 0) {
				t.Errorf("Unhex(%q) = %v, %v", s, b, e)
			}
		}
	}
}

func TestP2_4UnhexRefuses(t *testing.T) {
	for _, s := range []string{"0AFF", "0Aff", "0aFF", "0af", "0", "f", "0g", "g0", " 0", "0 ", "00 00", " 0000", "0x00", "00\n", "000\n", "-1", "+1", "00g0", "0000g", "é", "00é", "0001\x00\x00"} {
		if b, e := octets.Unhex(s); e != api.ErrSyntax || len(b) != 0 {
			t.Errorf("Unhex(%q) = %v, %v", s, b, e)
		}
	}
}

func TestP2_5TakeReturnsWhatPutWasGiven(t *testing.T) {
	random := rand.New(rand.NewSource(2))
	for range 2000 {
		fields, sizes, values := randomFields(random)
		b, e := octets.Put(fields...)
		if e != api.OK {
			t.Fatalf("Put(%v): %v", fields, e)
		}
		follows := randomBytes(random, random.Intn(4))
		numbers, rest, e := octets.Take(octets.Join(b, follows), sizes...)
		if e != api.OK || !slices.Equal(numbers, values) || !bytes.Equal(rest, follows) {
			t.Fatalf("Put(%v) is %v, and Take returns %v, %v, %v", fields, b, numbers, rest, e)
		}
	}
}

func TestP2_5XorTwiceChangesNothing(t *testing.T) {
	random := rand.New(rand.NewSource(3))
	for n := range 50 {
		a, b := randomBytes(random, n), randomBytes(random, n)
		if got := octets.Xor(octets.Xor(a, b), b); !bytes.Equal(got, a) {
			t.Errorf("%v twice with %v is %v", a, b, got)
		}
	}
}

func TestP2_5HexAndBack(t *testing.T) {
	random := rand.New(rand.NewSource(4))
	for n := range 50 {
		b := randomBytes(random, n)
		text := octets.Hex(b)
		if got, e := octets.Unhex(text); e != api.OK || !bytes.Equal(got, b) || len(text) != 2*n {
			t.Errorf("%v is %q, and back %v, %v", b, text, got, e)
		}
	}
}

func TestP2_5ArgumentsStay(t *testing.T) {
	fields := []api.Field{{Size: 2, Value: 258}, {Size: 9, Value: 1}}
	sizes := []int{2, 1}
	octets.Put(fields...)
	octets.Take([]byte{1, 2, 3}, sizes...)
	if fields[0] != (api.Field{Size: 2, Value: 258}) || fields[1] != (api.Field{Size: 9, Value: 1}) || !slices.Equal(sizes, []int{2, 1}) {
		t.Errorf("an argument was changed: %v, %v", fields, sizes)
	}
}

func randomFields(random *rand.Rand) (fields []api.Field, sizes []int, values []uint64) {
	for range random.Intn(6) {
		size := 1 + random.Intn(8)
		value := random.Uint64() >> (64 - 8*size)
		fields = append(fields, api.Field{Size: size, Value: value})
		sizes = append(sizes, size)
		values = append(values, value)
	}
	return fields, sizes, values
}

func randomBytes(random *rand.Rand, n int) []byte {
	b := make([]byte, n)
	for i := range b {
		b[i] = byte(random.Intn(256))
	}
	return b
}
