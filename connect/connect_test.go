package connect_test

import (
	"bytes"
	"encoding/hex"
	"math"
	"math/big"
	"math/rand"
	"slices"
	"testing"

	"wireless/api"
	"wireless/clock"
	"wireless/connect"
)

// numbers are numbers around which mistakes are likely, valid ones and others.
var numbers = []int{math.MinInt, math.MinInt + 1, -1 << 48, -65536, -3200, -2, -1, 0, 1, 2, 5, 6, 7, 8, 9, 10, 11, 40, 255, 256, 499, 500, 501, 999, 1000, 1001, 3199, 3200, 3201, 65535, 65536, 65537, api.MaxTime - 1, api.MaxTime, api.MaxTime + 1, 4*api.MaxTime - 1, 4 * api.MaxTime, 4*api.MaxTime + 1, 1 << 48, math.MaxInt - 1, math.MaxInt}

// example is the update of the chapter's examples.
var example = api.Update{WinSize: 2, WinOffset: 3, Interval: 40, Latency: 4, Timeout: 100}

// greatest is the update that takes the longest.
var greatest = api.Update{WinSize: 8, WinOffset: 3200, Interval: 3200, Timeout: 3200}

// even is the map of every other channel.
const even api.ChannelMap = 0x1555555555

// forms are parameters with their forms, which were computed apart from the program.
var forms = []struct {
	p    api.ConnParams
	form string
}{
	{api.ConnParams{Access: 0x12345678, Init: 0xabcdef, Update: example, Map: 33, Hop: 7, PPM: 70, Algorithm: api.HopSum}, "78563412efcdab020300280004006400210000000007460001"},
	{api.ConnParams{Access: 0xffffffff, Init: 0xffffff, Update: greatest, Map: api.AllChannels, Hop: 16, PPM: 500, Algorithm: api.HopMix}, "ffffffffffffff08800c800c0000800cffffffff1f10f40102"},
	{api.ConnParams{Access: 1, Init: 0, Update: api.Update{WinSize: 1, Interval: 6, Timeout: 10}, Map: 3, Hop: 5, PPM: 0, Algorithm: api.HopSum}, "01000000000000010000060000000a00030000000005000001"},
	{api.ConnParams{Access: 0x8e89bed7, Init: 0x555555, Update: api.Update{WinSize: 5, WinOffset: 258, Interval: 300, Latency: 2, Timeout: 772}, Map: 1<<36 | 1<<20 | 1<<9, Hop: 11, PPM: 259, Algorithm: api.HopMix}, "d7be898e5555550502012c010200040300021000100b030102"},
	{api.ConnParams{Access: 0x71764129, Init: 0x010203, Update: api.Update{WinSize: 1, WinOffset: 6, Interval: 6, Latency: 499, Timeout: 1000}, Map: even, Hop: 13, PPM: 500, Algorithm: api.HopMix}, "294176710302010106000600f301e80355555555150df40102"},
}

func TestP17_1CheckUpdateExamples(t *testing.T) {
	for _, c := range []struct {
		size, offset, interval, latency, timeout int
		want                                     api.Errno
	}{
		{2, 3, 40, 4, 100, api.OK}, {2, 3, 40, 9, 100, api.ErrMismatch}, {2, 3, 5, 4, 100, api.ErrRange}, {2, 41, 40, 4, 100, api.ErrMismatch},
		{2, 3, 40, 9, 101, api.OK}, {2, 3, 40, 8, 100, api.OK}, {2, 40, 40, 4, 100, api.OK}, {2, 39, 40, 4, 100, api.OK}, {2, 0, 40, 4, 100, api.OK}, {2, -1, 40, 4, 100, api.ErrRange},
		{1, 3, 40, 4, 100, api.OK}, {0, 3, 40, 4, 100, api.ErrRange}, {-1, 3, 40, 4, 100, api.ErrRange}, {8, 3, 40, 4, 100, api.OK}, {9, 3, 40, 4, 100, api.ErrRange},
		{5, 3, 6, 4, 100, api.OK}, {6, 3, 6, 4, 100, api.ErrMismatch}, {7, 3, 6, 4, 100, api.ErrMismatch}, {7, 3, 7, 4, 100, api.ErrMismatch}, {7, 3, 8, 4, 100, api.OK}, {8, 3, 8, 4, 100, api.ErrMismatch}, {8, 3, 9, 4, 100, api.OK},
		{1, 3200, 3200, 0, 3200, api.OK}, {1, 3200, 3199, 0, 3200, api.ErrMismatch}, {1, 3201, 3200, 0, 3200, api.ErrRange}, {1, 0, 3201, 0, 3200, api.ErrRange}, {1, 3201, 3201, 0, 3200, api.ErrRange},
		{1, 0, 3200, 0, 800, api.ErrMismatch}, {1, 0, 3200, 0, 801, api.OK}, {1, 0, 3200, 3, 3200, api.ErrMismatch}, {1, 0, 3199, 3, 3200, api.OK}, {1, 0, 3200, 2, 3200, api.OK},
		{1, 0, 6, 499, 750, api.ErrMismatch}, {1, 0, 6, 499, 751, api.OK}, {1, 0, 6, 500, 3200, api.ErrRange}, {1, 0, 6, -1, 3200, api.ErrRange}, {1, 0, 6, 0, 10, api.OK}, {1, 0, 6, 0, 9, api.ErrRange}, {1, 0, 6, 5, 10, api.OK}, {1, 0, 6, 6, 10, api.ErrMismatch}, {1, 0, 40, 0, 10, api.ErrMismatch}, {1, 0, 39, 0, 10, api.OK},
		{1, 0, 6, 0, 3200, api.OK}, {1, 0, 6, 0, 3201, api.ErrRange}, {1, 0, 6, 0, math.MaxInt, api.ErrRange}, {1, 0, 6, 0, math.MinInt, api.ErrRange},
		{0, 0, 0, 0, 0, api.ErrRange}, {9, 41, 40, 9, 100, api.ErrRange}, {2, 41, 40, 9, 3201, api.ErrRange}, {1 << 32, 3, 40, 4, 100, api.ErrRange}, {2, 3, 40, 1 << 60, 100, api.ErrRange}, {2, 3, math.MaxInt, 4, 100, api.ErrRange},
	} {
		u := api.Update{WinSize: c.size, WinOffset: c.offset, Interval: c.interval, Latency: c.latency, Timeout: c.timeout}
		if got := connect.CheckUpdate(u); got != c.want {
			t.Errorf("CheckUpdate(%v) = %v, want %v", u, got, c.want)
		}
	}
}

func TestP17_1CheckUpdateFollowsTheDefinition(t *testing.T) {
	valid := 0
	for _, size := range []int{math.MinInt, -1, 0, 1, 2, 5, 6, 7, 8, 9, math.MaxInt} {
		for _, offset := range []int{-1, 0, 1, 6, 7, 8, 300, 301, 3199, 3200, 3201, math.MaxInt} {
			for _, interval := range []int{-6, 0, 5, 6, 7, 8, 9, 300, 3199, 3200, 3201, math.MaxInt} {
				for _, latency := range []int{math.MinInt, -1, 0, 1, 2, 3, 4, 42, 498, 499, 500, math.MaxInt} {
					for _, timeout := range []int{-1, 9, 10, 11, 75, 76, 800, 801, 3199, 3200, 3201, math.MaxInt} {
						u := api.Update{WinSize: size, WinOffset: offset, Interval: interval, Latency: latency, Timeout: timeout}
						got, want := connect.CheckUpdate(u), checkUpdate(u)
						if got != want {
							t.Fatalf("CheckUpdate(%v) = %v, want %v", u, got, want)
						}
						if want == api.OK {
							valid++
						}
					}
				}
			}
		}
	}
	if valid < 500 {
		t.Errorf("only %d updates were valid", valid)
	}
}

// faults make valid parameters invalid, in the order in which Check looks for them; each one is found unless an earlier one is there.
var faults = []struct {
	comment string
	make    func(p *api.ConnParams)
	want    api.Errno
}{
	{"no access address", func(p *api.ConnParams) { p.Access = 0 }, api.ErrInvalid},
	{"the access address of advertising", func(p *api.ConnParams) { p.Access = 0x8e89bed6 }, api.ErrInvalid},
	{"an initial value of 25 bits", func(p *api.ConnParams) { p.Init = 1 << 24 }, api.ErrRange},
	{"the greatest initial value", func(p *api.ConnParams) { p.Init = math.MaxUint32 }, api.ErrRange},
	{"a window of no size", func(p *api.ConnParams) { p.Update.WinSize = 0 }, api.ErrRange},
	{"a window offset that is too great", func(p *api.ConnParams) { p.Update.WinOffset, p.Update.Interval = 41, 40 }, api.ErrMismatch},
	{"a timeout that is too short", func(p *api.ConnParams) { p.Update.Interval, p.Update.Latency, p.Update.Timeout = 40, 9, 100 }, api.ErrMismatch},
	{"a channel that is none", func(p *api.ConnParams) { p.Map |= 1 << 37 }, api.ErrRange},
	{"a single channel", func(p *api.ConnParams) { p.Map = 1 << 36 }, api.ErrInvalid},
	{"an increment of 4", func(p *api.ConnParams) { p.Hop = 4 }, api.ErrRange},
	{"an increment of 17", func(p *api.ConnParams) { p.Hop = 17 }, api.ErrRange},
	{"a deviation of -1", func(p *api.ConnParams) { p.PPM = -1 }, api.ErrRange},
	{"a deviation of 501", func(p *api.ConnParams) { p.PPM = 501 }, api.ErrRange},
	{"no algorithm", func(p *api.ConnParams) { p.Algorithm = 0 }, api.ErrKind},
	{"an unknown algorithm", func(p *api.ConnParams) { p.Algorithm = 3 }, api.ErrKind},
}

func TestP17_2CheckFindsEachFault(t *testing.T) {
	for _, f := range forms {
		if got := connect.Check(f.p); got != api.OK {
			t.Errorf("Check(%v) = %v", f.p, got)
		}
		for _, fault := range faults {
			p := f.p
			fault.make(&p)
			if got := connect.Check(p); got != fault.want {
				t.Errorf("Check(%v) with %s = %v, want %v", p, fault.comment, got, fault.want)
			}
		}
	}
}

func TestP17_2CheckReturnsTheFirstError(t *testing.T) {
	valid := forms[0].p
	for i, first := range faults {
		for _, second := range faults[i+1:] {
			// The later fault is made first, so that the earlier one stays if both are of the same number.
			p := valid
			second.make(&p)
			first.make(&p)
			if got := connect.Check(p); got != check(p) || check(p) != first.want {
				t.Errorf("Check(%v) with %s and %s = %v, want %v", p, first.comment, second.comment, got, first.want)
			}
		}
	}
}

func TestP17_2CheckFollowsTheDefinition(t *testing.T) {
	valid := forms[0].p
	try := func(p api.ConnParams) {
		if got, want := connect.Check(p), check(p); got != want {
			t.Fatalf("Check(%v) = %v, want %v", p, got, want)
		}
	}
	for _, n := range append(slices.Clone(numbers), 3, 4, 12, 15, 16, 17) {
		for _, change := range []func(p *api.ConnParams){
			func(p *api.ConnParams) { p.Access = uint32(n) }, func(p *api.ConnParams) { p.Init = uint32(n) }, func(p *api.ConnParams) { p.Map = api.ChannelMap(n) }, func(p *api.ConnParams) { p.Hop = n }, func(p *api.ConnParams) { p.PPM = n }, func(p *api.ConnParams) { p.Algorithm = n },
			func(p *api.ConnParams) { p.Update.WinSize = n }, func(p *api.ConnParams) { p.Update.WinOffset = n }, func(p *api.ConnParams) { p.Update.Interval = n }, func(p *api.ConnParams) { p.Update.Latency = n }, func(p *api.ConnParams) { p.Update.Timeout = n },
		} {
			p := valid
			change(&p)
			try(p)
		}
	}
	for _, access := range []uint32{0, 1, 0x8e89bed5, 0x8e89bed6, 0x8e89bed7, math.MaxUint32} {
		for _, initial := range []uint32{0, 1<<24 - 1, 1 << 24, math.MaxUint32} {
			p := valid
			p.Access, p.Init = access, initial
			try(p)
		}
	}
}

func TestP17_3EncodeExamples(t *testing.T) {
	for _, f := range forms {
		if got, e := connect.Encode(f.p); e != api.OK || hex.EncodeToString(got) != f.form {
			t.Errorf("Encode(%v) = %x, %v, want %s", f.p, got, e, f.form)
		}
	}
}

func TestP17_3EncodeReturnsTheErrorOfCheck(t *testing.T) {
	for _, f := range forms {
		for _, fault := range faults {
			p := f.p
			fault.make(&p)
			if got, e := connect.Encode(p); e != fault.want || len(got) != 0 {
				t.Errorf("Encode(%v) with %s = %x, %v, want %v", p, fault.comment, got, e, fault.want)
			}
		}
	}
	if got, e := connect.Encode(api.ConnParams{}); e != api.ErrInvalid || len(got) != 0 {
		t.Errorf("Encode of no parameters = %x, %v", got, e)
	}
}

func TestP17_3DecodeExamples(t *testing.T) {
	for _, f := range forms {
		b := unhex(t, f.form)
		if got, e := connect.Decode(b); e != api.OK || got != f.p {
			t.Errorf("Decode(%s) = %v, %v, want %v", f.form, got, e, f.p)
		}
		if hex.EncodeToString(b) != f.form {
			t.Errorf("the argument became %x", b)
		}
	}
}

func TestP17_3DecodeNeedsAllBytesAndNoMore(t *testing.T) {
	for _, form := range []string{forms[0].form, forms[1].form, "00000000000000000000000000000000000000000000000000", "ffffffffffffffffffffffffffffffffffffffffffffffffff"} {
		whole := unhex(t, form)
		for n := range len(whole) {
			if got, e := connect.Decode(whole[:n]); e != api.ErrTruncated || got != (api.ConnParams{}) {
				t.Errorf("Decode(%x) = %v, %v", whole[:n], got, e)
			}
		}
		for _, more := range [][]byte{{0}, {255}, {0, 0}, whole, make([]byte, 1000)} {
			long := append(slices.Clone(whole), more...)
			if got, e := connect.Decode(long); e != api.ErrSyntax || got != (api.ConnParams{}) {
				t.Errorf("Decode(%x) = %v, %v", long, got, e)
			}
		}
	}
	if got, e := connect.Decode(nil); e != api.ErrTruncated || got != (api.ConnParams{}) {
		t.Errorf("Decode(nil) = %v, %v", got, e)
	}
}

func TestP17_3DecodeReturnsTheErrorOfCheck(t *testing.T) {
	for _, c := range []struct {
		at, size int
		value    uint64
		want     api.Errno
	}{
		{0, 4, 0, api.ErrInvalid}, {0, 4, 0x8e89bed6, api.ErrInvalid}, {0, 4, 0x8e89bed5, api.OK}, {0, 4, 0xd6be898e, api.OK}, {4, 3, 0xffffff, api.OK},
		{7, 1, 0, api.ErrRange}, {7, 1, 9, api.ErrRange}, {7, 1, 255, api.ErrRange}, {8, 2, 3201, api.ErrRange}, {8, 2, 41, api.ErrMismatch}, {8, 2, 0xffff, api.ErrRange}, {10, 2, 5, api.ErrRange}, {10, 2, 0x2800, api.ErrRange}, {10, 2, 2, api.ErrRange}, {12, 2, 500, api.ErrRange}, {12, 2, 9, api.ErrMismatch}, {12, 2, 0xffff, api.ErrRange}, {14, 2, 9, api.ErrRange}, {14, 2, 10, api.ErrMismatch}, {14, 2, 0x6400, api.ErrRange},
		{16, 5, 0, api.ErrInvalid}, {16, 5, 1 << 36, api.ErrInvalid}, {16, 5, 1 << 37, api.ErrRange}, {16, 5, 1<<40 - 1, api.ErrRange}, {16, 5, 1<<37 - 1, api.OK},
		{21, 1, 4, api.ErrRange}, {21, 1, 17, api.ErrRange}, {21, 1, 255, api.ErrRange}, {22, 2, 501, api.ErrRange}, {22, 2, 0xffff, api.ErrRange}, {22, 2, 500, api.OK}, {24, 1, 0, api.ErrKind}, {24, 1, 3, api.ErrKind}, {24, 1, 255, api.ErrKind}, {24, 1, 2, api.OK},
	} {
		b := unhex(t, forms[0].form)
		for i := range c.size {
			b[c.at+i] = byte(c.value >> (8 * i))
		}
		got, e := connect.Decode(b)
		if e != c.want || e != api.OK && got != (api.ConnParams{}) {
			t.Errorf("Decode(%x) = %v, %v, want %v", b, got, e, c.want)
		}
	}
	if got, e := connect.Decode(make([]byte, 25)); e != api.ErrInvalid || got != (api.ConnParams{}) {
		t.Errorf("Decode of 25 zeros = %v, %v", got, e)
	}
}

func TestP17_3DecodeFollowsTheDefinition(t *testing.T) {
	random := rand.New(rand.NewSource(1))
	accepted := 0
	for range 200000 {
		b := unhex(t, forms[random.Intn(len(forms))].form)
		for range random.Intn(4) {
			b[random.Intn(len(b))] = byte(random.Intn(256))
		}
		p := parameters(b)
		want := check(p)
		if want == api.OK {
			accepted++
		} else {
			p = api.ConnParams{}
		}
		if got, e := connect.Decode(b); e != want || got != p {
			t.Fatalf("Decode(%x) = %v, %v, want %v, %v", b, got, e, p, want)
		}
	}
	if accepted < 1000 {
		t.Errorf("only %d forms were accepted", accepted)
	}
}

func TestP17_4FirstExamples(t *testing.T) {
	for _, c := range []struct {
		end  int
		u    api.Update
		want api.Window
	}{
		{1000, example, api.Window{Start: 6000, End: 8500}}, {0, example, api.Window{Start: 5000, End: 7500}}, {0, greatest, api.Window{Start: 4001250, End: 4011250}}, {7, api.Update{WinSize: 1, Interval: 6, Timeout: 10}, api.Window{Start: 1257, End: 2507}},
		{7, api.Update{}, api.Window{Start: 1257, End: 2507}}, {7, api.Update{WinSize: -5, WinOffset: -1}, api.Window{Start: 1257, End: 2507}}, {7, api.Update{WinSize: 9, WinOffset: 3201}, api.Window{Start: 4001257, End: 4011257}}, {7, api.Update{WinSize: math.MaxInt, WinOffset: math.MaxInt}, api.Window{Start: 4001257, End: 4011257}}, {7, api.Update{WinSize: math.MinInt, WinOffset: math.MinInt}, api.Window{Start: 1257, End: 2507}},
		{-1, example, api.Window{Start: 5000, End: 7500}}, {math.MinInt, example, api.Window{Start: 5000, End: 7500}}, {4 * api.MaxTime, example, api.Window{Start: 4398046516104, End: 4398046518604}}, {4*api.MaxTime + 1, example, api.Window{Start: 4398046516104, End: 4398046518604}}, {math.MaxInt, example, api.Window{Start: 4398046516104, End: 4398046518604}},
	} {
		if got := connect.First(c.end, c.u); got != c.want {
			t.Errorf("First(%d, %v) = %v, want %v", c.end, c.u, got, c.want)
		}
	}
}

func TestP17_4AnchorExamples(t *testing.T) {
	for _, c := range []struct{ anchor, interval, n, want int }{
		{1000, 40, 2, 101000}, {1000, 40, 0, 1000}, {1000, 40, 1, 51000}, {0, 6, 1, 7500}, {0, 3200, 1, 4000000}, {5, 3200, 65536, 262144000005}, {4 * api.MaxTime, 3200, 65536, 4660190511104},
		{1000, 40, -1, 1000}, {1000, 40, math.MinInt, 1000}, {0, 6, 65537, 491520000}, {0, 6, math.MaxInt, 491520000}, {0, 5, 1, 7500}, {0, 0, 1, 7500}, {0, math.MinInt, 1, 7500}, {0, 3201, 1, 4000000}, {0, math.MaxInt, 1, 4000000},
		{-1, 40, 1, 50000}, {math.MinInt, 40, 1, 50000}, {4*api.MaxTime + 1, 40, 0, 4398046511104}, {math.MaxInt, 40, 1, 4398046561104},
	} {
		if got := connect.Anchor(c.anchor, api.Update{Interval: c.interval}, c.n); got != c.want {
			t.Errorf("Anchor(%d, interval %d, %d) = %d, want %d", c.anchor, c.interval, c.n, got, c.want)
		}
	}
}

func TestP17_4TimeoutExamples(t *testing.T) {
	for _, c := range []struct{ timeout, want int }{
		{100, 1000000}, {10, 100000}, {11, 110000}, {3199, 31990000}, {3200, 32000000},
		{9, 100000}, {0, 100000}, {-100, 100000}, {math.MinInt, 100000}, {3201, 32000000}, {math.MaxInt, 32000000},
	} {
		if got := connect.Timeout(api.Update{Timeout: c.timeout}); got != c.want {
			t.Errorf("Timeout of %d = %d, want %d", c.timeout, got, c.want)
		}
	}
}

func TestP17_4FollowsTheDefinition(t *testing.T) {
	random := rand.New(rand.NewSource(2))
	for range 100000 {
		at, n, u := someNumber(random), someNumber(random), anyUpdate(random)
		start := sum(limited(at, 0, 4<<40), product(sum(big.NewInt(1), limited(u.WinOffset, 0, 3200)), big.NewInt(1250)))
		end := sum(start, product(limited(u.WinSize, 1, 8), big.NewInt(1250)))
		if got, want := connect.First(at, u), (api.Window{Start: number(start), End: number(end)}); got != want {
			t.Fatalf("First(%d, %v) = %v, want %v", at, u, got, want)
		}
		if got, want := connect.Anchor(at, u, n), number(sum(limited(at, 0, 4<<40), span(n, 0, u))); got != want {
			t.Fatalf("Anchor(%d, %v, %d) = %d, want %d", at, u, n, got, want)
		}
		if got, want := connect.Timeout(u), number(product(limited(u.Timeout, 10, 3200), big.NewInt(10000))); got != want {
			t.Fatalf("Timeout(%v) = %d, want %d", u, got, want)
		}
	}
}

func TestP17_5ExpectExamples(t *testing.T) {
	for _, c := range []struct {
		anchor, n, interval, ppm int
		want                     api.Window
	}{
		{0, 2, 40, 70, api.Window{Start: 99961, End: 100039}}, {123456789, 1, 6, 1000, api.Window{Start: 123464249, End: 123464329}}, {0, 65536, 3200, 1000, api.Window{Start: 261881855968, End: 262406144032}}, {4 * api.MaxTime, 65536, 3200, 1000, api.Window{Start: 4659928367072, End: 4660452655136}}, {5, 500, 3200, 333, api.Window{Start: 1999333973, End: 2000666037}}, {10, 1, 6, 0, api.Window{Start: 7478, End: 7542}},
		{10, 0, 6, 0, api.Window{Start: 7478, End: 7542}}, {10, -1, 6, 0, api.Window{Start: 7478, End: 7542}}, {10, math.MinInt, 6, 0, api.Window{Start: 7478, End: 7542}}, {0, 65537, 3200, 1000, api.Window{Start: 261881855968, End: 262406144032}}, {0, math.MaxInt, 3200, 1000, api.Window{Start: 261881855968, End: 262406144032}},
		{10, 1, 5, 0, api.Window{Start: 7478, End: 7542}}, {10, 1, math.MinInt, 0, api.Window{Start: 7478, End: 7542}}, {0, 65536, 3201, 1000, api.Window{Start: 261881855968, End: 262406144032}}, {0, 65536, math.MaxInt, 1000, api.Window{Start: 261881855968, End: 262406144032}},
		{10, 1, 6, -1, api.Window{Start: 7478, End: 7542}}, {10, 1, 6, math.MinInt, api.Window{Start: 7478, End: 7542}}, {123456789, 1, 6, 1001, api.Window{Start: 123464249, End: 123464329}}, {123456789, 1, 6, math.MaxInt, api.Window{Start: 123464249, End: 123464329}},
		{-1, 2, 40, 70, api.Window{Start: 99961, End: 100039}}, {math.MinInt, 2, 40, 70, api.Window{Start: 99961, End: 100039}}, {4*api.MaxTime + 1, 65536, 3200, 1000, api.Window{Start: 4659928367072, End: 4660452655136}}, {math.MaxInt, 65536, 3200, 1000, api.Window{Start: 4659928367072, End: 4660452655136}},
	} {
		if got := connect.Expect(c.anchor, c.n, api.Update{Interval: c.interval}, c.ppm); got != c.want {
			t.Errorf("Expect(%d, %d, interval %d, %d) = %v, want %v", c.anchor, c.n, c.interval, c.ppm, got, c.want)
		}
	}
	// Of an update only the interval counts.
	if got, want := connect.Expect(0, 2, example, 70), (api.Window{Start: 99961, End: 100039}); got != want {
		t.Errorf("Expect(0, 2, %v, 70) = %v, want %v", example, got, want)
	}
}

func TestP17_5ExpectFollowsTheDefinition(t *testing.T) {
	random := rand.New(rand.NewSource(3))
	for range 100000 {
		anchor, n, u, ppm := someNumber(random), someNumber(random), anyUpdate(random), someNumber(random)
		after := span(n, 1, u)
		at, w := sum(limited(anchor, 0, 4<<40), after), widening(ppm, after)
		want := api.Window{Start: number(at) - w, End: number(at) + w}
		if got := connect.Expect(anchor, n, u, ppm); got != want {
			t.Fatalf("Expect(%d, %d, %v, %d) = %v, want %v", anchor, n, u, ppm, got, want)
		}
	}
}

func TestP17_6MovedExamples(t *testing.T) {
	to := func(size, offset int) api.Update {
		return api.Update{WinSize: size, WinOffset: offset, Interval: 77, Latency: 1, Timeout: 300}
	}
	for _, c := range []struct {
		anchor, n, interval int
		now                 api.Update
		ppm                 int
		want                api.Window
	}{
		{0, 1, 40, to(2, 3), 70, api.Window{Start: 53714, End: 56286}}, {123456789, 1, 6, to(1, 0), 1000, api.Window{Start: 123464248, End: 123465580}}, {0, 65536, 3200, to(8, 3200), 1000, api.Window{Start: 261885851958, End: 262410158042}}, {4 * api.MaxTime, 65536, 3200, to(8, 3200), 1000, api.Window{Start: 4659932363062, End: 4660456669146}}, {5, 500, 3200, to(5, 7), 333, api.Window{Start: 1999342718, End: 2000681042}}, {0, 3, 41, to(2, 9), 250, api.Window{Start: 164926, End: 167574}}, {10, 1, 6, to(1, 0), 0, api.Window{Start: 7478, End: 8792}},
		{10, 0, 6, to(1, 0), 0, api.Window{Start: 7478, End: 8792}}, {10, math.MinInt, 6, to(1, 0), 0, api.Window{Start: 7478, End: 8792}}, {0, 65537, 3200, to(8, 3200), 1000, api.Window{Start: 261885851958, End: 262410158042}}, {0, math.MaxInt, math.MaxInt, to(8, 3200), 1000, api.Window{Start: 261885851958, End: 262410158042}},
		{10, 1, 5, to(1, 0), 0, api.Window{Start: 7478, End: 8792}}, {10, 1, 0, to(0, -1), 0, api.Window{Start: 7478, End: 8792}}, {10, 1, math.MinInt, to(math.MinInt, math.MinInt), math.MinInt, api.Window{Start: 7478, End: 8792}}, {0, 65536, 3200, to(9, 3201), 1001, api.Window{Start: 261885851958, End: 262410158042}}, {0, 65536, 3201, to(math.MaxInt, math.MaxInt), math.MaxInt, api.Window{Start: 261885851958, End: 262410158042}},
		{-1, 1, 40, to(2, 3), 70, api.Window{Start: 53714, End: 56286}}, {math.MinInt, 1, 40, to(2, 3), 70, api.Window{Start: 53714, End: 56286}}, {4*api.MaxTime + 1, 65536, 3200, to(8, 3200), 1000, api.Window{Start: 4659932363062, End: 4660456669146}}, {math.MaxInt, 65536, 3200, to(8, 3200), 1000, api.Window{Start: 4659932363062, End: 4660456669146}},
	} {
		// Of the old update only the interval counts.
		was := api.Update{WinSize: 3, WinOffset: 2, Interval: c.interval, Latency: 5, Timeout: 200}
		if got := connect.Moved(c.anchor, c.n, was, c.now, c.ppm); got != c.want {
			t.Errorf("Moved(%d, %d, %v, %v, %d) = %v, want %v", c.anchor, c.n, was, c.now, c.ppm, got, c.want)
		}
	}
}

func TestP17_6MovedFollowsTheDefinition(t *testing.T) {
	random := rand.New(rand.NewSource(4))
	for range 100000 {
		anchor, n, was, now, ppm := someNumber(random), someNumber(random), anyUpdate(random), anyUpdate(random), someNumber(random)
		due := sum(span(n, 1, was), product(limited(now.WinOffset, 0, 3200), big.NewInt(1250)))
		size := product(limited(now.WinSize, 1, 8), big.NewInt(1250))
		w := widening(ppm, sum(due, size))
		start := sum(limited(anchor, 0, 4<<40), due)
		want := api.Window{Start: number(start) - w, End: number(sum(start, size)) + w}
		if got := connect.Moved(anchor, n, was, now, ppm); got != want {
			t.Fatalf("Moved(%d, %d, %v, %v, %d) = %v, want %v", anchor, n, was, now, ppm, got, want)
		}
	}
}

func TestP17_7DecodeInvertsEncode(t *testing.T) {
	random := rand.New(rand.NewSource(5))
	for range 100000 {
		p := validParams(random)
		b, e := connect.Encode(p)
		if e != api.OK || len(b) != 25 {
			t.Fatalf("Encode(%v) = %x, %v", p, b, e)
		}
		if got, e := connect.Decode(b); e != api.OK || got != p {
			t.Fatalf("Decode(%x) = %v, %v, want %v", b, got, e, p)
		}
	}
}

func TestP17_7DecodedBytesAreTheFormOfTheResult(t *testing.T) {
	random := rand.New(rand.NewSource(6))
	accepted := 0
	for range 200000 {
		b, _ := connect.Encode(validParams(random))
		b[random.Intn(len(b))] = byte(random.Intn(256))
		p, e := connect.Decode(b)
		if e != api.OK {
			continue
		}
		accepted++
		if form, e := connect.Encode(p); e != api.OK || !bytes.Equal(form, b) {
			t.Fatalf("Decode(%x) = %v, whose form is %x, %v", b, p, form, e)
		}
	}
	if accepted < 10000 {
		t.Errorf("only %d forms were accepted", accepted)
	}
}

func TestP17_8Window(t *testing.T) {
	random := rand.New(rand.NewSource(7))
	checked := 0
	for range 300000 {
		a, b := someClock(random), someClock(random)
		u := validUpdate(random)
		n := 1 + random.Intn(connect.Timeout(u)/(u.Interval*1250))
		from := someTime(random)
		to := clock.Real(a, clock.Local(a, from)+n*u.Interval*1250)
		if to >= api.MaxTime {
			continue
		}
		checked++
		ppm := deviation(random, a, b)
		if w, shown := connect.Expect(clock.Local(b, from), n, u, ppm), clock.Local(b, to); shown < w.Start || shown >= w.End {
			t.Fatalf("from %d to %d, with the clocks %v and %v, %d events of %v: %d is not in %v", from, to, a, b, n, u, shown, w)
		}
	}
	if checked < 100000 {
		t.Errorf("only %d windows were checked", checked)
	}
}

func TestP17_8WindowOfTheExtremes(t *testing.T) {
	slowest, fastest := api.Clock{PPM: -500, Start: 3}, api.Clock{PPM: 500, Start: api.MaxTime}
	for _, interval := range []int{6, 7, 40, 3200} {
		u := api.Update{WinSize: 1, Interval: interval, Timeout: 3200}
		for n := 1; n <= 32000000/(interval*1250); n++ {
			for _, from := range []int{0, 1, 1999, 2000, 2001, 123456789} {
				for _, c := range [][2]api.Clock{{slowest, fastest}, {fastest, slowest}, {slowest, slowest}, {fastest, fastest}} {
					to := clock.Real(c[0], clock.Local(c[0], from)+n*interval*1250)
					if w, shown := connect.Expect(clock.Local(c[1], from), n, u, 1000), clock.Local(c[1], to); shown < w.Start || shown >= w.End {
						t.Fatalf("from %d to %d, with the clocks %v, %d events of %v: %d is not in %v", from, to, c, n, u, shown, w)
					}
				}
			}
		}
	}
}

func TestP17_9NewWindow(t *testing.T) {
	random := rand.New(rand.NewSource(8))
	checked := 0
	for range 300000 {
		a, b := someClock(random), someClock(random)
		was, now := validUpdate(random), validUpdate(random)
		n := 1 + random.Intn(connect.Timeout(was)/(was.Interval*1250))
		from := someTime(random)
		size := now.WinSize * 1250
		x := []int{0, 1, random.Intn(size + 1), size - 1, size}[random.Intn(5)]
		to := clock.Real(a, clock.Local(a, from)+n*was.Interval*1250+now.WinOffset*1250+x)
		if to >= api.MaxTime {
			continue
		}
		checked++
		ppm := deviation(random, a, b)
		if w, shown := connect.Moved(clock.Local(b, from), n, was, now, ppm), clock.Local(b, to); shown < w.Start || shown >= w.End {
			t.Fatalf("from %d to %d, with the clocks %v and %v, %d events of %v, then %v: %d is not in %v", from, to, a, b, n, was, now, shown, w)
		}
	}
	if checked < 100000 {
		t.Errorf("only %d windows were checked", checked)
	}
}

func TestR1AllArguments(t *testing.T) {
	random := rand.New(rand.NewSource(9))
	for range 100000 {
		at, n, ppm, was, now := someNumber(random), someNumber(random), someNumber(random), anyUpdate(random), anyUpdate(random)
		connect.CheckUpdate(was)
		connect.Check(api.ConnParams{Update: was})
		connect.Encode(api.ConnParams{Access: random.Uint32(), Init: random.Uint32(), Update: now, Map: api.ChannelMap(random.Uint64()), Hop: at, PPM: ppm, Algorithm: n})
		for _, w := range []api.Window{connect.First(at, was), connect.Expect(at, n, was, ppm), connect.Moved(at, n, was, now, ppm)} {
			if w.Start >= w.End {
				t.Fatalf("the window %v of %d, %d, %v, %v, %d is empty", w, at, n, was, now, ppm)
			}
		}
	}
	for n := range 60 {
		b := make([]byte, n)
		random.Read(b)
		connect.Decode(b)
	}
}

func TestR5EncodeReturnsNewMemory(t *testing.T) {
	first, _ := connect.Encode(forms[0].p)
	clear(first[:cap(first)])
	if second, e := connect.Encode(forms[0].p); e != api.OK || hex.EncodeToString(second) != forms[0].form {
		t.Errorf("the form became %x, %v", second, e)
	}
}

// checkUpdate is P17.1.
func checkUpdate(u api.Update) api.Errno {
	for _, c := range [][3]int{{u.WinSize, 1, 8}, {u.WinOffset, 0, 3200}, {u.Interval, 6, 3200}, {u.Latency, 0, 499}, {u.Timeout, 10, 3200}} {
		if c[0] < c[1] || c[0] > c[2] {
			return api.ErrRange
		}
	}
	if u.WinSize >= u.Interval || u.WinOffset > u.Interval || u.Timeout*10000 <= 2*(u.Latency+1)*u.Interval*1250 {
		return api.ErrMismatch
	}
	return api.OK
}

// check is P17.2.
func check(p api.ConnParams) api.Errno {
	if p.Access == 0 || p.Access == 0x8e89bed6 {
		return api.ErrInvalid
	}
	if p.Init >= 1<<24 {
		return api.ErrRange
	}
	if e := checkUpdate(p.Update); e != api.OK {
		return e
	}
	channels := 0
	for i := range 64 {
		if p.Map>>i&1 == 0 {
			continue
		}
		if i > 36 {
			return api.ErrRange
		}
		channels++
	}
	switch {
	case channels < 2:
		return api.ErrInvalid
	case p.Hop < 5 || p.Hop > 16:
		return api.ErrRange
	case p.PPM < 0 || p.PPM > 500:
		return api.ErrRange
	case p.Algorithm != 1 && p.Algorithm != 2:
		return api.ErrKind
	}
	return api.OK
}

// parameters are those whose form b would be.
func parameters(b []byte) api.ConnParams {
	n := func(from, to int) uint64 {
		value := uint64(0)
		for i := to; i >= from; i-- {
			value = value*256 + uint64(b[i])
		}
		return value
	}
	u := api.Update{WinSize: int(b[7]), WinOffset: int(n(8, 9)), Interval: int(n(10, 11)), Latency: int(n(12, 13)), Timeout: int(n(14, 15))}
	return api.ConnParams{Access: uint32(n(0, 3)), Init: uint32(n(4, 6)), Update: u, Map: api.ChannelMap(n(16, 20)), Hop: int(b[21]), PPM: int(n(22, 23)), Algorithm: int(b[24])}
}

// limited returns the number from least to greatest that is nearest to n.
func limited(n, least, greatest int) *big.Int {
	switch {
	case n < least:
		n = least
	case n > greatest:
		n = greatest
	}
	return big.NewInt(int64(n))
}

func sum(a, b *big.Int) *big.Int {
	return new(big.Int).Add(a, b)
}

func product(a, b *big.Int) *big.Int {
	return new(big.Int).Mul(a, b)
}

func number(n *big.Int) int {
	return int(n.Int64())
}

// span is n * Interval * IntervalUnit, where n is at least the given number.
func span(n, least int, u api.Update) *big.Int {
	return product(product(limited(n, least, 65536), limited(u.Interval, 6, 3200)), big.NewInt(1250))
}

// widening is P11.4 with numbers of any size.
func widening(ppm int, span *big.Int) int {
	drift := product(limited(ppm, 0, 1000), limited(number(span), 0, 1<<40))
	drift.Add(drift, big.NewInt(999999)).Div(drift, big.NewInt(1000000))
	return number(drift) + 32
}

func unhex(t *testing.T, s string) []byte {
	t.Helper()
	b, err := hex.DecodeString(s)
	if err != nil {
		t.Fatal(err)
	}
	return b
}

// someNumber returns a number at an edge, or a random one of some size, rarely a negative one.
func someNumber(random *rand.Rand) int {
	switch random.Intn(8) {
	case 0, 1:
		return numbers[random.Intn(len(numbers))]
	case 2:
		return -random.Intn(1 << random.Intn(63))
	}
	return random.Intn(1 << random.Intn(45))
}

// anyUpdate returns an update that is usually not valid.
func anyUpdate(random *rand.Rand) api.Update {
	return api.Update{WinSize: someNumber(random), WinOffset: someNumber(random), Interval: someNumber(random), Latency: someNumber(random), Timeout: someNumber(random)}
}

func validUpdate(random *rand.Rand) api.Update {
	for {
		u := api.Update{WinSize: 1 + random.Intn(8), WinOffset: random.Intn(1 + 3200>>random.Intn(12)), Interval: 6 + random.Intn(3195>>random.Intn(9)), Latency: random.Intn(500 >> random.Intn(9)), Timeout: 10 + random.Intn(3191)}
		if checkUpdate(u) == api.OK {
			return u
		}
	}
}

func validParams(random *rand.Rand) api.ConnParams {
	for {
		p := api.ConnParams{Access: random.Uint32(), Init: random.Uint32() % (1 << 24), Update: validUpdate(random), Map: api.ChannelMap(random.Uint64() % (1 << 37)), Hop: 5 + random.Intn(12), PPM: random.Intn(501), Algorithm: 1 + random.Intn(2)}
		if check(p) == api.OK {
			return p
		}
	}
}

// someClock returns a valid clock, often one of the fastest or slowest.
func someClock(random *rand.Rand) api.Clock {
	ppm := []int{-500, 500, random.Intn(1001) - 500, random.Intn(1001) - 500}[random.Intn(4)]
	return api.Clock{PPM: ppm, Start: random.Intn(1 << random.Intn(41))}
}

func someTime(random *rand.Rand) int {
	if random.Intn(10) == 0 {
		return api.MaxTime - random.Intn(1<<random.Intn(41))
	}
	return random.Intn(1 << random.Intn(41))
}

// deviation returns the sum of the deviations of two clocks, or more.
func deviation(random *rand.Rand, a, b api.Clock) int {
	least := max(a.PPM, -a.PPM) + max(b.PPM, -b.PPM)
	if random.Intn(3) > 0 {
		return least
	}
	return least + random.Intn(1001-least)
}
