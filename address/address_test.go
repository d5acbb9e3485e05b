package address_test

import (
	"bytes"
	"cmp"
	"fmt"
	"math"
	"math/rand"
	"regexp"
	"slices"
	"strings"
	"testing"

	"wireless/address"
	"wireless/api"
)

// validKinds are the kinds of valid addresses.
var validKinds = []int{api.AddrPublic, api.AddrStatic, api.AddrResolvable, api.AddrAnonymous}

// otherKinds are kinds that no valid address has; some of them end with a byte that is a valid kind.
var otherKinds = []int{api.AddrNone, 5, 6, 255, 256, 257, 260, 1<<32 + 1, 1<<48 + 2, -1, -2, -4, -252, math.MaxInt, math.MinInt, math.MinInt + 1}

func TestP8_1CheckExamples(t *testing.T) {
	for _, c := range []struct {
		a    api.Address
		want api.Errno
	}{
		{api.Address{}, api.ErrKind}, {api.Address{Kind: 5}, api.ErrKind}, {api.Address{Kind: -1}, api.ErrKind}, {api.Address{Kind: 0, Bits: 0xc00000000001}, api.ErrKind},
		{api.Address{Kind: api.AddrStatic, Bits: 0xc00000000000}, api.ErrInvalid}, {api.Address{Kind: api.AddrStatic, Bits: 0xffffffffffff}, api.ErrInvalid}, {api.Address{Kind: api.AddrStatic, Bits: 0xc00000000001}, api.OK}, {api.Address{Kind: api.AddrStatic, Bits: 0xfffffffffffe}, api.OK},
		{api.Address{Kind: api.AddrStatic, Bits: 0x800000000001}, api.ErrInvalid}, {api.Address{Kind: api.AddrStatic, Bits: 0x400000000001}, api.ErrInvalid}, {api.Address{Kind: api.AddrStatic, Bits: 1}, api.ErrInvalid},
		{api.Address{Kind: api.AddrResolvable, Bits: 0x400001000000}, api.OK}, {api.Address{Kind: api.AddrResolvable, Bits: 0x400000ffffff}, api.ErrInvalid}, {api.Address{Kind: api.AddrResolvable, Bits: 0x7ffffeffffff}, api.OK}, {api.Address{Kind: api.AddrResolvable, Bits: 0x7fffff000000}, api.ErrInvalid}, {api.Address{Kind: api.AddrResolvable, Bits: 0x7fffff123456}, api.ErrInvalid},
		{api.Address{Kind: api.AddrResolvable, Bits: 0xc00001000000}, api.ErrInvalid}, {api.Address{Kind: api.AddrResolvable, Bits: 0x000001000000}, api.ErrInvalid}, {api.Address{Kind: api.AddrResolvable, Bits: 0x800001000000}, api.ErrInvalid},
		{api.Address{Kind: api.AddrAnonymous, Bits: 0}, api.ErrInvalid}, {api.Address{Kind: api.AddrAnonymous, Bits: 1}, api.OK}, {api.Address{Kind: api.AddrAnonymous, Bits: 0x3fffffffffff}, api.ErrInvalid}, {api.Address{Kind: api.AddrAnonymous, Bits: 0x3ffffffffffe}, api.OK}, {api.Address{Kind: api.AddrAnonymous, Bits: 0x400000000001}, api.ErrInvalid},
		{api.Address{Kind: api.AddrPublic, Bits: 0}, api.OK}, {api.Address{Kind: api.AddrPublic, Bits: 0xffffffffffff}, api.OK}, {api.Address{Kind: api.AddrPublic, Bits: 0x400000000000}, api.OK}, {api.Address{Kind: api.AddrPublic, Bits: 0xc00000000000}, api.OK},
		{api.Address{Kind: api.AddrPublic, Bits: 1 << 48}, api.ErrRange}, {api.Address{Kind: api.AddrPublic, Bits: math.MaxUint64}, api.ErrRange}, {api.Address{Kind: api.AddrStatic, Bits: 1<<48 + 0xc00000000001}, api.ErrRange}, {api.Address{Kind: api.AddrStatic, Bits: 1 << 63}, api.ErrRange}, {api.Address{Kind: api.AddrAnonymous, Bits: 1<<48 + 1}, api.ErrRange},
	} {
		if got := address.Check(c.a); got != c.want {
			t.Errorf("Check(%d, %x) = %v, want %v", c.a.Kind, c.a.Bits, got, c.want)
		}
	}
}

func TestP8_1CheckFollowsTheDefinition(t *testing.T) {
	for _, kind := range allKinds() {
		for _, bits := range edges() {
			a := api.Address{Kind: kind, Bits: bits}
			if got, want := address.Check(a), check(a); got != want {
				t.Fatalf("Check(%d, %x) = %v, want %v", kind, bits, got, want)
			}
		}
	}
}

func TestP8_2RandomExamples(t *testing.T) {
	for _, c := range []struct {
		kind       int
		bits, want uint64
	}{
		{api.AddrStatic, 0, 0xc00000000001}, {api.AddrStatic, 1, 0xc00000000001}, {api.AddrStatic, 2, 0xc00000000002}, {api.AddrStatic, 1<<46 - 1, 0xfffffffffffe}, {api.AddrStatic, 1<<46 - 2, 0xfffffffffffe}, {api.AddrStatic, 1 << 46, 0xc00000000001}, {api.AddrStatic, 1 << 47, 0xc00000000001}, {api.AddrStatic, 1 << 48, 0xc00000000001}, {api.AddrStatic, math.MaxUint64, 0xfffffffffffe}, {api.AddrStatic, 0x123456789abc, 0xd23456789abc},
		{api.AddrResolvable, 5, 0x400001000005}, {api.AddrResolvable, 0, 0x400001000000}, {api.AddrResolvable, 0x1000000, 0x400001000000}, {api.AddrResolvable, 0x2000007, 0x400002000007}, {api.AddrResolvable, 1<<46 - 1, 0x7ffffeffffff}, {api.AddrResolvable, 0x3fffff000003, 0x7ffffe000003}, {api.AddrResolvable, 0x3ffffe000003, 0x7ffffe000003}, {api.AddrResolvable, 1<<46 + 9, 0x400001000009}, {api.AddrResolvable, math.MaxUint64, 0x7ffffeffffff},
		{api.AddrAnonymous, 1<<46 - 1, 1<<46 - 2}, {api.AddrAnonymous, 0, 1}, {api.AddrAnonymous, 7, 7}, {api.AddrAnonymous, 1 << 46, 1}, {api.AddrAnonymous, 1<<47 + 3, 3}, {api.AddrAnonymous, math.MaxUint64, 1<<46 - 2},
		{api.AddrPublic, 1 << 48, 0}, {api.AddrPublic, 0, 0}, {api.AddrPublic, 1<<48 - 1, 1<<48 - 1}, {api.AddrPublic, math.MaxUint64, 1<<48 - 1}, {api.AddrPublic, 1<<46 - 1, 1<<46 - 1}, {api.AddrPublic, 1<<63 + 3<<46, 3 << 46},
	} {
		if got, want := address.Random(c.kind, c.bits), (api.Address{Kind: c.kind, Bits: c.want}); got != want {
			t.Errorf("Random(%d, %x) = %x, want %x", c.kind, c.bits, got, want)
		}
	}
}

func TestP8_2RandomFollowsTheDefinition(t *testing.T) {
	for _, kind := range validKinds {
		for _, bits := range edges() {
			got, want := address.Random(kind, bits), random(kind, bits)
			if got != want || check(got) != api.OK {
				t.Fatalf("Random(%d, %x) = %x, want %x", kind, bits, got, want)
			}
		}
	}
}

func TestP8_2RandomKeepsValidAddresses(t *testing.T) {
	for _, a := range validAddresses() {
		if got := address.Random(a.Kind, a.Bits); got != a {
			t.Errorf("Random(%d, %x) = %x", a.Kind, a.Bits, got)
		}
	}
}

func TestP8_2RandomOfOtherKinds(t *testing.T) {
	for _, kind := range otherKinds {
		for _, bits := range []uint64{0, 1, 0xc00000000001, 1 << 48, math.MaxUint64} {
			if got := address.Random(kind, bits); got != (api.Address{}) {
				t.Errorf("Random(%d, %x) = %x", kind, bits, got)
			}
		}
	}
}

func TestP8_3EncodeExamples(t *testing.T) {
	for _, c := range []struct {
		a    api.Address
		want []byte
		e    api.Errno
	}{
		{api.Address{Kind: api.AddrPublic, Bits: 0x0000a1b2c3d4}, []byte{1, 0xd4, 0xc3, 0xb2, 0xa1, 0, 0}, api.OK},
		{api.Address{Kind: api.AddrStatic, Bits: 0xc00000000001}, []byte{2, 1, 0, 0, 0, 0, 0xc0}, api.OK},
		{api.Address{Kind: api.AddrResolvable, Bits: 0x400001000005}, []byte{3, 5, 0, 0, 1, 0, 0x40}, api.OK},
		{api.Address{Kind: api.AddrAnonymous, Bits: 0x123456789abc}, []byte{4, 0xbc, 0x9a, 0x78, 0x56, 0x34, 0x12}, api.OK},
		{api.Address{Kind: api.AddrPublic}, []byte{1, 0, 0, 0, 0, 0, 0}, api.OK},
		{api.Address{}, nil, api.ErrKind}, {api.Address{Kind: 257, Bits: 1}, nil, api.ErrKind}, {api.Address{Kind: 5, Bits: 1 << 48}, nil, api.ErrKind}, {api.Address{Kind: -1, Bits: 1}, nil, api.ErrKind},
		{api.Address{Kind: api.AddrPublic, Bits: 1 << 48}, nil, api.ErrRange}, {api.Address{Kind: api.AddrStatic, Bits: math.MaxUint64}, nil, api.ErrRange}, {api.Address{Kind: api.AddrStatic, Bits: 1}, nil, api.ErrInvalid},
	} {
		if got, e := address.Encode(c.a); e != c.e || !bytes.Equal(got, c.want) {
			t.Errorf("Encode(%d, %x) = %x, %v", c.a.Kind, c.a.Bits, got, e)
		}
	}
}

func TestP8_3EncodeFollowsTheDefinition(t *testing.T) {
	for _, kind := range allKinds() {
		for _, bits := range edges() {
			a := api.Address{Kind: kind, Bits: bits}
			got, e := address.Encode(a)
			if want := check(a); e != want {
				t.Fatalf("Encode(%d, %x): %v, want %v", kind, bits, e, want)
			}
			if e != api.OK && len(got) != 0 || e == api.OK && !bytes.Equal(got, encoded(a)) {
				t.Fatalf("Encode(%d, %x) = %x, %v", kind, bits, got, e)
			}
		}
	}
}

func TestP8_4DecodeExamples(t *testing.T) {
	for _, c := range []struct {
		b    []byte
		a    api.Address
		rest []byte
		e    api.Errno
	}{
		{[]byte{1, 0xd4, 0xc3, 0xb2, 0xa1, 0, 0}, api.Address{Kind: api.AddrPublic, Bits: 0xa1b2c3d4}, nil, api.OK},
		{[]byte{2, 1, 0, 0, 0, 0, 0xc0, 9, 8, 7}, api.Address{Kind: api.AddrStatic, Bits: 0xc00000000001}, []byte{9, 8, 7}, api.OK},
		{[]byte{4, 0xfe, 0xff, 0xff, 0xff, 0xff, 0x3f, 0}, api.Address{Kind: api.AddrAnonymous, Bits: 1<<46 - 2}, []byte{0}, api.OK},
		{nil, api.Address{}, nil, api.ErrTruncated}, {[]byte{}, api.Address{}, nil, api.ErrTruncated}, {[]byte{1}, api.Address{}, nil, api.ErrTruncated}, {[]byte{1, 2, 3, 4, 5, 6}, api.Address{}, nil, api.ErrTruncated}, {[]byte{9, 2, 3, 4, 5, 6}, api.Address{}, nil, api.ErrTruncated}, {[]byte{0}, api.Address{}, nil, api.ErrTruncated},
		{[]byte{0, 0, 0, 0, 0, 0, 0}, api.Address{}, nil, api.ErrKind}, {[]byte{5, 1, 0, 0, 0, 0, 0xc0, 1}, api.Address{}, nil, api.ErrKind}, {[]byte{255, 255, 255, 255, 255, 255, 255}, api.Address{}, nil, api.ErrKind},
		{[]byte{2, 0, 0, 0, 0, 0, 0xc0, 1}, api.Address{}, nil, api.ErrInvalid}, {[]byte{2, 0xc0, 0, 0, 0, 0, 1}, api.Address{}, nil, api.ErrInvalid}, {[]byte{3, 1, 0, 0, 0, 0, 0x40, 1, 1}, api.Address{}, nil, api.ErrInvalid}, {[]byte{4, 1, 0, 0, 0, 0, 0x40}, api.Address{}, nil, api.ErrInvalid},
	} {
		a, rest, e := address.Decode(c.b)
		if a != c.a || !bytes.Equal(rest, c.rest) || e != c.e {
			t.Errorf("Decode(%x) = %x, %x, %v", c.b, a, rest, e)
		}
	}
}

func TestP8_4DecodeFollowsTheDefinition(t *testing.T) {
	for first := range 256 {
		for _, bits := range edges() {
			want := api.Address{Kind: first, Bits: bits % (1 << 48)}
			a, rest, e := address.Decode(append(encoded(want), 5, 6))
			if e != check(want) {
				t.Fatalf("Decode of %x: %v, want %v", want, e, check(want))
			}
			if e == api.OK && (a != want || !bytes.Equal(rest, []byte{5, 6})) || e != api.OK && (a != (api.Address{}) || len(rest) != 0) {
				t.Fatalf("Decode of %x = %x, %x, %v", want, a, rest, e)
			}
		}
	}
}

func TestP8_4DecodeNeedsSevenBytes(t *testing.T) {
	for _, a := range validAddresses() {
		whole := encoded(a)
		for size := range whole {
			// The bytes behind the end are there, but they do not belong to the slice.
			if got, rest, e := address.Decode(whole[:size]); e != api.ErrTruncated || got != (api.Address{}) || len(rest) != 0 {
				t.Fatalf("Decode(%x) = %x, %x, %v", whole[:size], got, rest, e)
			}
		}
	}
}

func TestP8_4DecodeReturnsNewMemory(t *testing.T) {
	b := append(encoded(api.Address{Kind: api.AddrPublic, Bits: 77}), 1, 2, 3, 4)
	before := slices.Clone(b)
	for size := 7; size <= len(b); size++ {
		_, rest, e := address.Decode(b[:size])
		if e != api.OK || len(rest) != size-7 {
			t.Fatalf("Decode(%x): %x, %v", b[:size], rest, e)
		}
		clear(rest[:cap(rest)])
		if !bytes.Equal(b, before) {
			t.Fatalf("the argument became %x", b)
		}
	}
}

func TestP8_5TextExamples(t *testing.T) {
	for _, c := range []struct {
		kind int
		bits uint64
		want string
	}{
		{api.AddrStatic, 0xc00000000001, "C0:00:00:00:00:01/s"}, {api.AddrPublic, 0x0000a1b2c3d4, "00:00:A1:B2:C3:D4/p"}, {api.AddrResolvable, 0x400001000005, "40:00:01:00:00:05/r"}, {api.AddrAnonymous, 0x0123456789ab, "01:23:45:67:89:AB/a"}, {api.AddrPublic, 0xfedcba987654, "FE:DC:BA:98:76:54/p"}, {api.AddrPublic, 0, "00:00:00:00:00:00/p"}, {api.AddrPublic, 0xffffffffffff, "FF:FF:FF:FF:FF:FF/p"},
		{api.AddrNone, 0, ""}, {api.AddrNone, 1, ""}, {5, 1, ""}, {-1, 1, ""}, {api.AddrPublic, 1 << 48, ""}, {api.AddrStatic, 0xc00000000000, ""}, {api.AddrResolvable, 1, ""}, {api.AddrAnonymous, 0, ""},
	} {
		if got := address.Text(api.Address{Kind: c.kind, Bits: c.bits}); got != c.want {
			t.Errorf("Text(%d, %x) = %q, want %q", c.kind, c.bits, got, c.want)
		}
	}
}

func TestP8_5TextFollowsTheDefinition(t *testing.T) {
	for _, kind := range allKinds() {
		for _, bits := range edges() {
			a := api.Address{Kind: kind, Bits: bits}
			want := ""
			if check(a) == api.OK {
				want = text(a)
			}
			if got := address.Text(a); got != want {
				t.Fatalf("Text(%d, %x) = %q, want %q", kind, bits, got, want)
			}
		}
	}
}

func TestP8_6ParseExamples(t *testing.T) {
	for _, c := range []struct {
		s    string
		kind int
		bits uint64
		e    api.Errno
	}{
		{"C0:00:00:00:00:01/s", api.AddrStatic, 0xc00000000001, api.OK}, {"00:00:A1:B2:C3:D4/p", api.AddrPublic, 0xa1b2c3d4, api.OK}, {"40:00:01:00:00:05/r", api.AddrResolvable, 0x400001000005, api.OK}, {"01:23:45:67:89:AB/a", api.AddrAnonymous, 0x0123456789ab, api.OK}, {"FE:DC:BA:98:76:54/p", api.AddrPublic, 0xfedcba987654, api.OK},
		{"00:00:00:00:00:01/s", 0, 0, api.ErrInvalid}, {"C0:00:00:00:00:00/s", 0, 0, api.ErrInvalid}, {"FF:FF:FF:FF:FF:FF/s", 0, 0, api.ErrInvalid}, {"00:00:00:00:00:00/a", 0, 0, api.ErrInvalid}, {"40:00:00:00:00:05/r", 0, 0, api.ErrInvalid}, {"7F:FF:FF:00:00:05/r", 0, 0, api.ErrInvalid},
		{"00:00:a1:B2:C3:D4/p", 0, 0, api.ErrSyntax}, {"00:00:00:00:00:0g/s", 0, 0, api.ErrSyntax}, {"", 0, 0, api.ErrSyntax}, {"C0", 0, 0, api.ErrSyntax}, {"/s", 0, 0, api.ErrSyntax}, {"C0:00:00:00:00:01", 0, 0, api.ErrSyntax}, {"C0:00:00:00:00:01/", 0, 0, api.ErrSyntax}, {"C0:00:00:00:00:01s", 0, 0, api.ErrSyntax}, {"C0:00:00:00:00/s", 0, 0, api.ErrSyntax}, {"C0:00:00:00:00:00:01/s", 0, 0, api.ErrSyntax}, {"C0-00-00-00-00-01/s", 0, 0, api.ErrSyntax}, {"C0:00:00:00:00/01:s", 0, 0, api.ErrSyntax}, {"C0:00:00:00:00:01:s", 0, 0, api.ErrSyntax}, {"C000000000010000:/s", 0, 0, api.ErrSyntax},
		{" C0:00:00:00:00:01/s", 0, 0, api.ErrSyntax}, {"C0:00:00:00:00:01/s ", 0, 0, api.ErrSyntax}, {"C0:00:00:00:00:01/s\n", 0, 0, api.ErrSyntax}, {"C0:00:00:00:00:01/S", 0, 0, api.ErrSyntax}, {"C0:00:00:00:00:01/x", 0, 0, api.ErrSyntax}, {"C0:00:00:00:00:01/\x00", 0, 0, api.ErrSyntax}, {"C0:00:00:00:00:01/2", 0, 0, api.ErrSyntax}, {"C0:00:00:00:00:01/ss", 0, 0, api.ErrSyntax}, {"C0:00:00:00:00:01/ps", 0, 0, api.ErrSyntax}, {"C0:00:00:00:00:+1/s", 0, 0, api.ErrSyntax}, {"C0:00:00:00:00: 1/s", 0, 0, api.ErrSyntax}, {"C0:0:000:00:00:01/s", 0, 0, api.ErrSyntax}, {"C0:00:00:00:00:é/s", 0, 0, api.ErrSyntax},
	} {
		if got, e := address.Parse(c.s); e != c.e || got != (api.Address{Kind: c.kind, Bits: c.bits}) {
			t.Errorf("Parse(%q) = %x, %v, want %v", c.s, got, e, c.e)
		}
	}
}

func TestP8_6ParseFollowsTheDefinition(t *testing.T) {
	form := regexp.MustCompile(`\A([0-9A-F]{2}:){5}[0-9A-F]{2}/[psra]\z`)
	for _, s := range []string{"C0:00:00:00:00:01/s", "00:00:A1:B2:C3:D4/p", "40:00:01:00:00:05/r", "01:23:45:67:89:AB/a", "00:00:00:00:00:00/a", "7F:FF:FF:FF:FF:FF/r"} {
		for at := range s {
			for c := range 256 {
				changed := []byte(s)
				changed[at] = byte(c)
				want := api.ErrSyntax
				var a api.Address
				if form.Match(changed) {
					a = read(string(changed))
					want = check(a)
				}
				if want != api.OK {
					a = api.Address{}
				}
				if got, e := address.Parse(string(changed)); e != want || got != a {
					t.Fatalf("Parse(%q) = %x, %v, want %x, %v", changed, got, e, a, want)
				}
			}
		}
	}
}

func TestP8_6ParseNeedsTheWholeText(t *testing.T) {
	for _, a := range validAddresses() {
		s := text(a)
		for size := range s {
			for _, part := range []string{s[:size], s[len(s)-size:], s[:size+1] + s, s[:size] + s[size+1:], s[:size] + "0" + s[size:], s + s[size:]} {
				if got, e := address.Parse(part); e != api.ErrSyntax || got != (api.Address{}) {
					t.Fatalf("Parse(%q) = %x, %v", part, got, e)
				}
			}
		}
	}
}

func TestP8_7CompareExamples(t *testing.T) {
	for _, c := range []struct {
		a, b api.Address
		want int
	}{
		{api.Address{}, api.Address{}, 0}, {api.Address{Kind: 1, Bits: 5}, api.Address{Kind: 1, Bits: 5}, 0}, {api.Address{Kind: 1, Bits: 5}, api.Address{Kind: 1, Bits: 6}, -1}, {api.Address{Kind: 1, Bits: 6}, api.Address{Kind: 1, Bits: 5}, 1},
		{api.Address{Kind: 1, Bits: 6}, api.Address{Kind: 2, Bits: 5}, -1}, {api.Address{Kind: 2, Bits: 5}, api.Address{Kind: 1, Bits: 6}, 1}, {api.Address{Kind: 2, Bits: 5}, api.Address{Kind: 1, Bits: 5}, 1}, {api.Address{Kind: 0, Bits: math.MaxUint64}, api.Address{Kind: 1}, -1},
		{api.Address{Kind: -1, Bits: 7}, api.Address{Kind: 0}, -1}, {api.Address{Kind: math.MinInt}, api.Address{Kind: math.MaxInt}, -1}, {api.Address{Kind: math.MaxInt}, api.Address{Kind: math.MinInt}, 1}, {api.Address{Kind: math.MinInt}, api.Address{Kind: 1}, -1}, {api.Address{Kind: 1 << 32}, api.Address{Kind: 1}, 1},
		{api.Address{Kind: 9, Bits: 1 << 63}, api.Address{Kind: 9, Bits: 1}, 1}, {api.Address{Kind: 9, Bits: 0}, api.Address{Kind: 9, Bits: math.MaxUint64}, -1}, {api.Address{Kind: 9, Bits: 1 << 48}, api.Address{Kind: 9, Bits: 0}, 1}, {api.Address{Kind: 9, Bits: 1 << 48}, api.Address{Kind: 9, Bits: 1 << 48}, 0},
	} {
		if got := address.Compare(c.a, c.b); got != c.want {
			t.Errorf("Compare(%x, %x) = %d, want %d", c.a, c.b, got, c.want)
		}
	}
}

func TestP8_7CompareFollowsTheDefinition(t *testing.T) {
	all := anyAddresses()
	for _, a := range all {
		for _, b := range all {
			want := 0
			switch {
			case a.Kind < b.Kind, a.Kind == b.Kind && a.Bits < b.Bits:
				want = -1
			case a != b:
				want = 1
			}
			if got := address.Compare(a, b); got != want {
				t.Fatalf("Compare(%x, %x) = %d, want %d", a, b, got, want)
			}
		}
	}
}

func TestP8_8EncodingsAreDecoded(t *testing.T) {
	random := rand.New(rand.NewSource(1))
	for _, a := range validAddresses() {
		b, e := address.Encode(a)
		if e != api.OK {
			t.Fatalf("Encode(%x): %v", a, e)
		}
		for _, size := range []int{0, 1, 6, 7, 8, 300} {
			rest := randomBytes(random, size)
			got, left, e := address.Decode(append(slices.Clone(b), rest...))
			if e != api.OK || got != a || !bytes.Equal(left, rest) {
				t.Fatalf("Decode of %x and %x = %x, %x, %v", a, rest, got, left, e)
			}
		}
	}
}

func TestP8_8DecodedBytesAreEncodings(t *testing.T) {
	random := rand.New(rand.NewSource(2))
	decoded := 0
	for range 20000 {
		b := randomBytes(random, random.Intn(12))
		if len(b) > 0 {
			b[0] %= 6
		}
		a, rest, e := address.Decode(b)
		if e != api.OK {
			continue
		}
		decoded++
		if again, e := address.Encode(a); e != api.OK || !bytes.Equal(append(again, rest...), b) {
			t.Fatalf("%x is decoded as %x and %x, which is encoded as %x, %v", b, a, rest, again, e)
		}
	}
	if decoded < 1000 {
		t.Errorf("only %d addresses were decoded", decoded)
	}
}

func TestP8_8TextsAreParsed(t *testing.T) {
	for _, a := range validAddresses() {
		if got, e := address.Parse(address.Text(a)); e != api.OK || got != a {
			t.Fatalf("Parse(%q) = %x, %v, want %x", address.Text(a), got, e, a)
		}
	}
}

func TestP8_8ParsedTextsAreTexts(t *testing.T) {
	random := rand.New(rand.NewSource(3))
	parsed := 0
	for range 20000 {
		s := text(api.Address{Kind: 1 + random.Intn(4), Bits: random.Uint64() >> 16})
		if random.Intn(2) == 0 {
			s = strings.ToLower(s)
		}
		if a, e := address.Parse(s); e == api.OK {
			parsed++
			if got := address.Text(a); got != s {
				t.Fatalf("%q is parsed as %x, whose text is %q", s, a, got)
			}
		}
	}
	if parsed < 1000 {
		t.Errorf("only %d texts were parsed", parsed)
	}
}

func TestP8_9OnlyEqualAddressesCompareEqual(t *testing.T) {
	all := anyAddresses()
	for _, a := range all {
		for _, b := range all {
			if (address.Compare(a, b) == 0) != (a == b) {
				t.Fatalf("Compare(%x, %x) = %d", a, b, address.Compare(a, b))
			}
		}
	}
}

func TestP8_9ExchangedArgumentsChangeTheSign(t *testing.T) {
	all := anyAddresses()
	for _, a := range all {
		for _, b := range all {
			if one, other := address.Compare(a, b), address.Compare(b, a); one != -other {
				t.Fatalf("Compare(%x, %x) = %d, and the other way round %d", a, b, one, other)
			}
		}
	}
}

func TestP8_9TheOrderIsTransitive(t *testing.T) {
	all := anyAddresses()
	for _, a := range all {
		for _, b := range all {
			if address.Compare(a, b) > 0 {
				continue
			}
			for _, c := range all {
				if address.Compare(b, c) <= 0 && address.Compare(a, c) > 0 {
					t.Fatalf("%x, %x and %x are not in order", a, b, c)
				}
			}
		}
	}
}

// check follows the definition of valid addresses and the promise of Check.
func check(a api.Address) api.Errno {
	prefix, part, most := a.Bits>>46, a.Bits%(1<<46), uint64(1<<46-1)
	if a.Kind == api.AddrResolvable {
		part, most = (a.Bits>>24)%(1<<22), 1<<22-1
	}
	want, found := map[int]uint64{api.AddrPublic: prefix, api.AddrStatic: 3, api.AddrResolvable: 1, api.AddrAnonymous: 0}[a.Kind]
	switch {
	case !found:
		return api.ErrKind
	case a.Bits >= 1<<48:
		return api.ErrRange
	case prefix != want, a.Kind != api.AddrPublic && (part == 0 || part == most):
		return api.ErrInvalid
	}
	return api.OK
}

// random follows the promise of Random, for the kinds of valid addresses.
func random(kind int, bits uint64) api.Address {
	limited := func(part, most uint64) uint64 {
		switch part {
		case 0:
			return 1
		case most:
			return most - 1
		}
		return part
	}
	switch kind {
	case api.AddrStatic:
		bits = 3<<46 + limited(bits%(1<<46), 1<<46-1)
	case api.AddrResolvable:
		bits = 1<<46 + limited((bits>>24)%(1<<22), 1<<22-1)<<24 + bits%(1<<24)
	case api.AddrAnonymous:
		bits = limited(bits%(1<<46), 1<<46-1)
	}
	return api.Address{Kind: kind, Bits: bits % (1 << 48)}
}

// encoded returns the seven bytes of an address, which need not be valid.
func encoded(a api.Address) []byte {
	b := []byte{byte(a.Kind)}
	for shift := 0; shift < 48; shift += 8 {
		b = append(b, byte(a.Bits>>shift))
	}
	return b
}

// text returns the text of an address of a valid kind, whose prefix and random part need not be valid.
func text(a api.Address) string {
	digits := fmt.Sprintf("%012X", a.Bits)
	return fmt.Sprintf("%s:%s:%s:%s:%s:%s/%c", digits[:2], digits[2:4], digits[4:6], digits[6:8], digits[8:10], digits[10:], "psra"[a.Kind-1])
}

// read returns the address of a text of the right form.
func read(s string) api.Address {
	var letter byte
	var c [6]uint64
	if n, err := fmt.Sscanf(s, "%X:%X:%X:%X:%X:%X/%c", &c[0], &c[1], &c[2], &c[3], &c[4], &c[5], &letter); n != 7 || err != nil {
		panic(s)
	}
	a := api.Address{Kind: 1 + strings.IndexByte("psra", letter)}
	for _, n := range c {
		a.Bits = a.Bits*256 + n
	}
	return a
}

func allKinds() []int {
	return append(slices.Clone(validKinds), otherKinds...)
}

// edges returns numbers around the limits of prefixes, random parts, hashes and addresses, and random ones.
func edges() []uint64 {
	var all []uint64
	for prefix := range uint64(4) {
		for _, part := range []uint64{0, 1, 2, 1<<21 - 1, 1 << 21, 1<<22 - 2, 1<<22 - 1} {
			for _, hash := range []uint64{0, 1, 1 << 23, 1<<24 - 2, 1<<24 - 1} {
				all = append(all, prefix<<46+part<<24+hash)
			}
		}
	}
	for _, bits := range slices.Clone(all) {
		all = append(all, 1<<48+bits, 1<<63+bits)
	}
	for bit := range 64 {
		all = append(all, 1<<bit, 1<<bit-1, ^uint64(1)<<bit)
	}
	random := rand.New(rand.NewSource(4))
	for range 200 {
		all = append(all, random.Uint64(), random.Uint64()>>16)
	}
	return append(all, math.MaxUint64)
}

// validAddresses returns addresses of all kinds, each of them once.
func validAddresses() []api.Address {
	var all []api.Address
	for _, kind := range validKinds {
		for _, bits := range edges() {
			all = append(all, random(kind, bits))
		}
	}
	return sorted(all)
}

// anyAddresses returns addresses, valid or not, each of them once.
func anyAddresses() []api.Address {
	var all []api.Address
	for _, kind := range allKinds() {
		for _, bits := range []uint64{0, 1, 2, 0x400001000005, 0xc00000000001, 1<<48 - 1, 1 << 48, 1<<63 - 1, 1 << 63, math.MaxUint64} {
			all = append(all, api.Address{Kind: kind, Bits: bits})
		}
	}
	return sorted(all)
}

// sorted does not use Compare, which is tested with the result.
func sorted(all []api.Address) []api.Address {
	slices.SortFunc(all, func(a, b api.Address) int {
		return cmp.Or(cmp.Compare(a.Kind, b.Kind), cmp.Compare(a.Bits, b.Bits))
	})
	return slices.Compact(all)
}

func randomBytes(random *rand.Rand, n int) []byte {
	b := make([]byte, n)
	for i := range b {
		b[i] = byte(random.Intn(256))
	}
	return b
}
