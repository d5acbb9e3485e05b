package ctrlpdu_test

import (
	"bytes"
	"encoding/binary"
	"encoding/hex"
	"math"
	"math/rand"
	"slices"
	"strings"
	"testing"

	"wireless/api"
	"wireless/chanmap"
	"wireless/connect"
	"wireless/ctrlpdu"
)

// Updates of the tests: the one of the chapter about connections, and those with the least and the greatest numbers.
var (
	usual    = api.Update{WinSize: 2, WinOffset: 3, Interval: 40, Latency: 4, Timeout: 100}
	least    = api.Update{WinSize: 1, WinOffset: 0, Interval: 6, Latency: 0, Timeout: 10}
	greatest = api.Update{WinSize: 8, WinOffset: 3200, Interval: 3200, Latency: 2, Timeout: 3200}
	patient  = api.Update{WinSize: 5, WinOffset: 6, Interval: 6, Latency: 499, Timeout: 1234}
)

// forms are control PDUs with their forms, which were written apart from the program.
var forms = []struct {
	c    api.Control
	form string
}{
	{api.Control{Kind: api.CtlUpdate, Update: usual, Instant: 258}, "00" + "0203002800040064000201"}, {api.Control{Kind: api.CtlUpdate, Update: least}, "00" + "01000006000000" + "0a00" + "0000"}, {api.Control{Kind: api.CtlUpdate, Update: greatest, Instant: 65535}, "00" + "08" + "800c" + "800c" + "0200" + "800c" + "ffff"}, {api.Control{Kind: api.CtlUpdate, Update: patient, Instant: 1}, "00" + "05" + "0600" + "0600" + "f301" + "d204" + "0100"},
	{api.Control{Kind: api.CtlMap, Map: 257, Instant: 258}, "0101010000000201"}, {api.Control{Kind: api.CtlMap, Map: api.AllChannels}, "01ffffffff1f0000"}, {api.Control{Kind: api.CtlMap, Map: 1<<36 | 1<<35, Instant: 32768}, "0100000000180080"}, {api.Control{Kind: api.CtlMap, Map: 3, Instant: 255}, "010300000000ff00"}, {api.Control{Kind: api.CtlMap, Map: 0x123456789, Instant: 65535}, "018967452301ffff"},
	{api.Control{Kind: api.CtlTerminate}, "0200"}, {api.Control{Kind: api.CtlTerminate, Reason: api.ReasonUser}, "0213"}, {api.Control{Kind: api.CtlTerminate, Reason: 255}, "02ff"},
	{api.Control{Kind: api.CtlEncrypt}, "03" + zeros(16)}, {api.Control{Kind: api.CtlEncrypt, Salt: 0x0102030405060708, Mark: 0xa1a2a3a4a5a6a7a8}, "03" + "0807060504030201" + "a8a7a6a5a4a3a2a1"}, {api.Control{Kind: api.CtlEncrypt, Salt: 1}, "03" + "01" + zeros(15)}, {api.Control{Kind: api.CtlEncrypt, Mark: 1}, "03" + zeros(8) + "01" + zeros(7)}, {api.Control{Kind: api.CtlEncrypt, Salt: math.MaxUint64, Mark: 1 << 63}, "03" + "ffffffffffffffff" + "0000000000000080"},
	{api.Control{Kind: api.CtlEncAnswer}, "04" + zeros(8)}, {api.Control{Kind: api.CtlEncAnswer, Salt: 0x0102030405060708}, "04" + "0807060504030201"}, {api.Control{Kind: api.CtlEncAnswer, Salt: math.MaxUint64}, "04" + "ffffffffffffffff"},
	{api.Control{Kind: api.CtlStart}, "05"}, {api.Control{Kind: api.CtlStartAnswer}, "06"},
	{api.Control{Kind: api.CtlUnknown}, "0700"}, {api.Control{Kind: api.CtlUnknown, Rejected: 99}, "0763"}, {api.Control{Kind: api.CtlUnknown, Rejected: 255}, "07ff"},
	{api.Control{Kind: api.CtlFeatures}, "08" + zeros(8)}, {api.Control{Kind: api.CtlFeatures, Features: 63}, "083f" + zeros(7)}, {api.Control{Kind: api.CtlFeatures, Features: 0x8000000000000001}, "0801" + zeros(6) + "80"}, {api.Control{Kind: api.CtlFeatAnswer}, "09" + zeros(8)}, {api.Control{Kind: api.CtlFeatAnswer, Features: 0x0102030405060708}, "090807060504030201"},
	{api.Control{Kind: api.CtlVersion}, "0c00"}, {api.Control{Kind: api.CtlVersion, Version: 11}, "0c0b"}, {api.Control{Kind: api.CtlVersion, Version: 255}, "0cff"},
	{api.Control{Kind: api.CtlReject, Reason: api.ReasonKey, Rejected: api.CtlEncrypt}, "0d0603"}, {api.Control{Kind: api.CtlReject}, "0d0000"}, {api.Control{Kind: api.CtlReject, Reason: 255, Rejected: 254}, "0dfffe"},
	{api.Control{Kind: api.CtlParams, Update: usual}, "0f" + "020300280004006400"}, {api.Control{Kind: api.CtlParams, Update: least}, "0f" + "010000060000000a00"}, {api.Control{Kind: api.CtlParams, Update: greatest}, "0f" + "08800c800c0200800c"},
	{api.Control{Kind: api.CtlPing}, "12"}, {api.Control{Kind: api.CtlPingAnswer}, "13"},
	{api.Control{Kind: api.CtlLength, Length: 27}, "141b"}, {api.Control{Kind: api.CtlLength, Length: 251}, "14fb"}, {api.Control{Kind: api.CtlLenAnswer, Length: 27}, "151b"}, {api.Control{Kind: api.CtlLenAnswer, Length: 100}, "1564"}, {api.Control{Kind: api.CtlLenAnswer, Length: 251}, "15fb"},
}

// uses are the kinds with the fields that they use: U Update, M Map, I Instant, R Reason, J Rejected, S Salt, K Mark, F Features, V Version, L Length.
var uses = map[int]string{0: "UI", 1: "MI", 2: "R", 3: "SK", 4: "S", 5: "", 6: "", 7: "J", 8: "F", 9: "F", 12: "V", 13: "RJ", 15: "U", 18: "", 19: "", 20: "L", 21: "L"}

// otherKinds are numbers that are not kinds; the lowest bytes of some of them are.
var otherKinds = []int{math.MinInt, math.MinInt + 1, -257, -256, -255, -2, -1, 10, 11, 14, 16, 17, 22, 23, 24, 99, 127, 128, 254, 255, 256, 257, 258, 268, 274, 1 << 32, 1<<32 + 1, 1<<32 + 18, math.MaxInt - 1, math.MaxInt}

// Numbers that are not in the range of a byte, and numbers that are no lengths.
var (
	noBytes   = []int{math.MinInt, math.MinInt + 19, -256, -255, -2, -1, 256, 257, 275, 511, 512, 65536, 1 << 32, 1<<32 + 19, math.MaxInt}
	noLengths = []int{math.MinInt, math.MinInt + 27, -229, -1, 0, 1, 25, 26, 252, 253, 255, 256, 283, 1<<32 + 27, math.MaxInt}
)

// A fault makes the field of a control PDU that a letter of uses names invalid, with an error for the kinds that use it.
type fault struct {
	letter string
	make   func(c *api.Control)
	want   api.Errno
}

// faults returns the faults of all fields; those of a field stand in the order in which they are found.
func faults() []fault {
	var l []fault
	for _, u := range []api.Update{{}, {WinSize: 9, WinOffset: 3, Interval: 40, Timeout: 100}, {WinSize: 258, WinOffset: 3, Interval: 40, Timeout: 100}, {WinSize: 2, WinOffset: -1, Interval: 40, Timeout: 100}, {WinSize: 2, WinOffset: 3201, Interval: 40, Timeout: 100}, {WinSize: 2, WinOffset: 65539, Interval: 40, Timeout: 100}, {WinSize: 2, Interval: 5, Timeout: 100}, {WinSize: 2, Interval: 65576, Timeout: 100}, {WinSize: 2, Interval: 40, Latency: 500, Timeout: 100}, {WinSize: 2, Interval: 40, Latency: -1, Timeout: 100}, {WinSize: 2, Interval: 40, Timeout: 9}, {WinSize: 2, Interval: 40, Timeout: math.MinInt + 100}} {
		l = append(l, fault{"U", func(c *api.Control) { c.Update = u }, api.ErrRange})
	}
	for _, u := range []api.Update{{WinSize: 6, Interval: 6, Timeout: 100}, {WinSize: 2, WinOffset: 41, Interval: 40, Timeout: 100}, {WinSize: 2, Interval: 40, Latency: 9, Timeout: 100}} {
		l = append(l, fault{"U", func(c *api.Control) { c.Update = u }, api.ErrMismatch})
	}
	for _, m := range []api.ChannelMap{1 << 37, 1<<37 | 3, 1<<40 | 257, 1<<63 | 257, math.MaxUint64} {
		l = append(l, fault{"M", func(c *api.Control) { c.Map = m }, api.ErrRange})
	}
	for _, m := range []api.ChannelMap{0, 1, 1 << 8, 1 << 36} {
		l = append(l, fault{"M", func(c *api.Control) { c.Map = m }, api.ErrInvalid})
	}
	for _, n := range noBytes {
		l = append(l, fault{"R", func(c *api.Control) { c.Reason = n }, api.ErrRange}, fault{"J", func(c *api.Control) { c.Rejected = n }, api.ErrRange}, fault{"V", func(c *api.Control) { c.Version = n }, api.ErrRange})
	}
	for _, n := range noLengths {
		l = append(l, fault{"L", func(c *api.Control) { c.Length = n }, api.ErrRange})
	}
	return l
}

// settings set one number of a field that a letter of uses names to one that is not zero.
func settings() []fault {
	var l []fault
	number := func(letter string, field func(c *api.Control) *int) {
		for _, n := range []int{math.MinInt, -1, 1, 27, 255, 256, 1 << 32, math.MaxInt} {
			l = append(l, fault{letter, func(c *api.Control) { *field(c) = n }, api.ErrInvalid})
		}
	}
	number("U", func(c *api.Control) *int { return &c.Update.WinSize })
	number("U", func(c *api.Control) *int { return &c.Update.WinOffset })
	number("U", func(c *api.Control) *int { return &c.Update.Interval })
	number("U", func(c *api.Control) *int { return &c.Update.Latency })
	number("U", func(c *api.Control) *int { return &c.Update.Timeout })
	number("R", func(c *api.Control) *int { return &c.Reason })
	number("J", func(c *api.Control) *int { return &c.Rejected })
	number("V", func(c *api.Control) *int { return &c.Version })
	number("L", func(c *api.Control) *int { return &c.Length })
	for _, n := range []uint64{1, 257, 1 << 37, 1 << 63, math.MaxUint64} {
		l = append(l, fault{"M", func(c *api.Control) { c.Map = api.ChannelMap(n) }, api.ErrInvalid}, fault{"S", func(c *api.Control) { c.Salt = n }, api.ErrInvalid}, fault{"K", func(c *api.Control) { c.Mark = n }, api.ErrInvalid}, fault{"F", func(c *api.Control) { c.Features = n }, api.ErrInvalid})
	}
	for _, n := range []uint16{1, 258, 32768, 65535} {
		l = append(l, fault{"I", func(c *api.Control) { c.Instant = n }, api.ErrInvalid})
	}
	return append(l, fault{"U", func(c *api.Control) { c.Update = usual }, api.ErrInvalid})
}

func TestP26_1CheckAcceptsTheEdges(t *testing.T) {
	found := map[int]int{}
	for _, f := range forms {
		found[f.c.Kind]++
		if got := ctrlpdu.Check(f.c); got != api.OK {
			t.Errorf("Check(%+v) = %v", f.c, got)
		}
	}
	if len(found) != len(uses) {
		t.Errorf("%d kinds", len(found))
	}
	for n := range 256 {
		for _, c := range []api.Control{{Kind: api.CtlTerminate, Reason: n}, {Kind: api.CtlUnknown, Rejected: n}, {Kind: api.CtlVersion, Version: n}, {Kind: api.CtlReject, Reason: n, Rejected: 255 - n}} {
			if got := ctrlpdu.Check(c); got != api.OK {
				t.Errorf("Check(%+v) = %v", c, got)
			}
		}
		want := api.ErrRange
		if n >= 27 && n <= 251 {
			want = api.OK
		}
		for _, c := range []api.Control{{Kind: api.CtlLength, Length: n}, {Kind: api.CtlLenAnswer, Length: n}} {
			if got := ctrlpdu.Check(c); got != want {
				t.Errorf("Check(%+v) = %v, want %v", c, got, want)
			}
		}
	}
}

func TestP26_1CheckRejectsOtherKinds(t *testing.T) {
	for _, kind := range otherKinds {
		c := api.Control{Kind: kind}
		if got := ctrlpdu.Check(c); got != api.ErrKind {
			t.Errorf("Check(%+v) = %v", c, got)
		}
		for _, f := range append(faults(), settings()...) {
			c := api.Control{Kind: kind}
			f.make(&c)
			if got := ctrlpdu.Check(c); got != api.ErrKind {
				t.Errorf("Check(%+v) = %v", c, got)
			}
		}
	}
	for kind := -1000; kind < 1000; kind++ {
		_, known := uses[kind]
		if got := ctrlpdu.Check(api.Control{Kind: kind}); known == (got == api.ErrKind) {
			t.Errorf("Check of an empty control PDU of the kind %d = %v", kind, got)
		}
	}
}

func TestP26_1CheckFindsFieldsThatAreNotUsed(t *testing.T) {
	found := 0
	for _, f := range forms {
		for _, s := range settings() {
			if strings.Contains(uses[f.c.Kind], s.letter) {
				continue
			}
			c := f.c
			s.make(&c)
			if got := ctrlpdu.Check(c); got != api.ErrInvalid {
				t.Errorf("Check(%+v) = %v, want %v", c, got, api.ErrInvalid)
			}
			found++
			// This is found before what is wrong with the fields that are used.
			for _, wrong := range faults() {
				if !strings.Contains(uses[c.Kind], wrong.letter) {
					continue
				}
				c := c
				wrong.make(&c)
				if got := ctrlpdu.Check(c); got != api.ErrInvalid {
					t.Errorf("Check(%+v) = %v, want %v", c, got, api.ErrInvalid)
				}
			}
		}
	}
	if found < 1000 {
		t.Errorf("only %d control PDUs", found)
	}
}

func TestP26_1CheckFindsEachFault(t *testing.T) {
	for _, f := range forms {
		for _, wrong := range faults() {
			if !strings.Contains(uses[f.c.Kind], wrong.letter) {
				continue
			}
			c := f.c
			wrong.make(&c)
			if got := ctrlpdu.Check(c); got != wrong.want || got != check(c) {
				t.Errorf("Check(%+v) = %v, want %v", c, got, wrong.want)
			}
		}
	}
}

func TestP26_1CheckFollowsTheDefinition(t *testing.T) {
	random := rand.New(rand.NewSource(1))
	found := map[api.Errno]int{}
	for range 60000 {
		c := mixed(random)
		got, want := ctrlpdu.Check(c), check(c)
		if got != want {
			t.Fatalf("Check(%+v) = %v, want %v", c, got, want)
		}
		found[got]++
	}
	for _, e := range []api.Errno{api.OK, api.ErrKind, api.ErrInvalid, api.ErrRange, api.ErrMismatch} {
		if found[e] < 100 {
			t.Errorf("the result was %v only %d times", e, found[e])
		}
	}
}

func TestP26_2EncodeExamples(t *testing.T) {
	for _, f := range forms {
		if got, e := ctrlpdu.Encode(f.c); e != api.OK || hex.EncodeToString(got) != f.form {
			t.Errorf("Encode(%+v) = %x, %v, want %s", f.c, got, e, f.form)
		}
	}
	for _, c := range []struct {
		c    api.Control
		want []byte
	}{
		{api.Control{Kind: api.CtlMap, Map: 1 | 1<<8, Instant: 258}, []byte{1, 1, 1, 0, 0, 0, 2, 1}},
		{api.Control{Kind: api.CtlReject, Reason: api.ReasonKey, Rejected: api.CtlEncrypt}, []byte{13, 6, 3}},
		{api.Control{Kind: api.CtlPing}, []byte{18}},
	} {
		if got, e := ctrlpdu.Encode(c.c); e != api.OK || !bytes.Equal(got, c.want) {
			t.Errorf("Encode(%+v) = %d, %v, want %d", c.c, got, e, c.want)
		}
	}
}

func TestP26_2EncodeReturnsTheErrorOfCheck(t *testing.T) {
	random := rand.New(rand.NewSource(2))
	for range 30000 {
		c := mixed(random)
		got, e := ctrlpdu.Encode(c)
		want := check(c)
		if e != want || e != api.OK && len(got) != 0 || e == api.OK && !bytes.Equal(got, encode(c)) {
			t.Fatalf("Encode(%+v) = %x, %v, want %v", c, got, e, want)
		}
	}
	for _, kind := range otherKinds {
		if got, e := ctrlpdu.Encode(api.Control{Kind: kind}); e != api.ErrKind || len(got) != 0 {
			t.Errorf("Encode of the kind %d = %x, %v", kind, got, e)
		}
	}
}

func TestP26_3DecodeExamples(t *testing.T) {
	for _, f := range forms {
		b := unhex(t, f.form)
		if got, e := ctrlpdu.Decode(b); e != api.OK || got != f.c {
			t.Errorf("Decode(%s) = %+v, %v, want %+v", f.form, got, e, f.c)
		}
		if hex.EncodeToString(b) != f.form {
			t.Errorf("the argument became %x", b)
		}
	}
}

func TestP26_3DecodeRejects(t *testing.T) {
	for _, c := range []struct {
		comment, b string
		want       api.Errno
	}{
		{"nothing", "", api.ErrTruncated},
		{"the example with 10", "0a", api.ErrKind}, {"11", "0b", api.ErrKind}, {"14 with bytes", "0e00000000", api.ErrKind}, {"16", "10", api.ErrKind}, {"17", "11", api.ErrKind}, {"22", "1600", api.ErrKind}, {"255", "ff", api.ErrKind}, {"128", "80" + zeros(20), api.ErrKind},
		{"the example with 9", "09", api.ErrTruncated}, {"no fields of an update", "00", api.ErrTruncated}, {"an update without its instant", "00" + "020300280004006400", api.ErrTruncated}, {"an update without its last byte", "00" + "02030028000400640002", api.ErrTruncated}, {"half an update", "00" + "0203002800", api.ErrTruncated}, {"a map without its last byte", "01010100000002", api.ErrTruncated}, {"a map without its instant", "010101000000", api.ErrTruncated}, {"a map without channels and its last byte", "01000000000002", api.ErrTruncated}, {"no reason", "02", api.ErrTruncated}, {"no mark", "03" + zeros(8), api.ErrTruncated}, {"a mark without its last byte", "03" + zeros(15), api.ErrTruncated}, {"a salt without its last byte", "04" + zeros(7), api.ErrTruncated}, {"no kind that is rejected", "07", api.ErrTruncated}, {"no version", "0c", api.ErrTruncated}, {"a reason alone", "0d06", api.ErrTruncated}, {"an update that is requested without its last byte", "0f" + "0203002800040064", api.ErrTruncated}, {"an update of zeros without its last byte", "0f" + zeros(8), api.ErrTruncated}, {"no length", "14", api.ErrTruncated}, {"no length of an answer", "15", api.ErrTruncated},
		{"the example with 5", "0500", api.ErrSyntax}, {"a byte after 6", "0600", api.ErrSyntax}, {"a byte after 18", "1212", api.ErrSyntax}, {"a byte after 19", "1300", api.ErrSyntax}, {"a byte after an update", "00" + "0203002800040064000201" + "00", api.ErrSyntax}, {"an instant of a request", "0f" + "0203002800040064000201", api.ErrSyntax}, {"a byte after a map", "010101000000020100", api.ErrSyntax}, {"a byte after a reason", "021300", api.ErrSyntax}, {"a byte after a mark", "03" + zeros(17), api.ErrSyntax}, {"a mark in the answer", "04" + zeros(16), api.ErrSyntax}, {"a byte after features", "08" + zeros(9), api.ErrSyntax}, {"two bytes of a version", "0c0b00", api.ErrSyntax}, {"a third byte of a reject", "0d060300", api.ErrSyntax}, {"two bytes of a length", "141b00", api.ErrSyntax}, {"a byte after a length that is too small", "141a00", api.ErrSyntax}, {"a byte after a map without channels", "01" + zeros(8), api.ErrSyntax}, {"a byte after an update of zeros", "00" + zeros(12), api.ErrSyntax}, {"65536 bytes more", "12" + zeros(1<<16), api.ErrSyntax},
		{"the example with 26", "141a", api.ErrRange}, {"a length that is too great", "14fc", api.ErrRange}, {"a length of 255", "15ff", api.ErrRange}, {"an answer with the length 26", "151a", api.ErrRange}, {"a length of 0", "1500", api.ErrRange}, {"an update of zeros", "00" + zeros(11), api.ErrRange}, {"a window of 9 units", "0f" + "090300280004006400", api.ErrRange}, {"an interval of 5 units", "0f" + "020300050004006400", api.ErrRange}, {"a latency of 500", "0f" + "02030028" + "00f4016400", api.ErrRange}, {"a timeout of 9", "0f" + "020300280004000900", api.ErrRange}, {"an offset of 3201 units", "0f" + "02810c280004006400", api.ErrRange}, {"a channel 37", "01" + "0300000020" + "0000", api.ErrRange}, {"all bits of a map", "01" + "ffffffffff" + "0000", api.ErrRange},
		{"an offset beyond the interval", "0f" + "022900280004006400", api.ErrMismatch}, {"a latency of 9", "00" + "0203002800090064000201", api.ErrMismatch}, {"one channel", "01" + "0100000000" + "0201", api.ErrInvalid}, {"no channels", "01" + zeros(5) + "0201", api.ErrInvalid},
	} {
		if got, e := ctrlpdu.Decode(unhex(t, c.b)); e != c.want || got != (api.Control{}) {
			t.Errorf("Decode(%s), %s, = %+v, %v, want %v", c.b, c.comment, got, e, c.want)
		}
	}
}

func TestP26_3DecodeOfAllKindsAndLengths(t *testing.T) {
	random := rand.New(rand.NewSource(3))
	for kind := range 256 {
		for n := range 40 {
			for i := range 6 {
				b := append([]byte{byte(kind)}, noise(random, n)...)
				if i == 0 {
					b = append([]byte{byte(kind)}, make([]byte, n)...)
				}
				want, wantE := decode(b)
				if got, e := ctrlpdu.Decode(b); e != wantE || got != want {
					t.Fatalf("Decode(%x) = %+v, %v, want %+v, %v", b, got, e, want, wantE)
				}
			}
		}
	}
}

func TestP26_3DecodeFollowsTheDefinition(t *testing.T) {
	random := rand.New(rand.NewSource(4))
	found := map[api.Errno]int{}
	for range 60000 {
		b := spoiled(random, encode(valid(random)))
		want, wantE := decode(b)
		if got, e := ctrlpdu.Decode(b); e != wantE || got != want {
			t.Fatalf("Decode(%x) = %+v, %v, want %+v, %v", b, got, e, want, wantE)
		}
		found[wantE]++
	}
	for _, e := range []api.Errno{api.OK, api.ErrTruncated, api.ErrKind, api.ErrSyntax, api.ErrRange, api.ErrMismatch, api.ErrInvalid} {
		if found[e] < 20 {
			t.Errorf("the result was %v only %d times", e, found[e])
		}
	}
}

func TestP26_3DecodeOfNilAndEmpty(t *testing.T) {
	for _, b := range [][]byte{nil, {}, []byte{18}[:0]} {
		if got, e := ctrlpdu.Decode(b); e != api.ErrTruncated || got != (api.Control{}) {
			t.Errorf("Decode of nothing = %+v, %v", got, e)
		}
	}
	// What lies behind the end of the bytes is not theirs.
	if got, e := ctrlpdu.Decode([]byte{2, 19}[:1]); e != api.ErrTruncated || got != (api.Control{}) {
		t.Errorf("Decode of a beginning = %+v, %v", got, e)
	}
}

func TestP26_4Procedure(t *testing.T) {
	want := map[int]int{
		api.CtlFeatures: api.CtlFeatures, api.CtlFeatAnswer: api.CtlFeatures,
		api.CtlEncrypt: api.CtlEncrypt, api.CtlEncAnswer: api.CtlEncrypt, api.CtlStart: api.CtlEncrypt, api.CtlStartAnswer: api.CtlEncrypt,
		api.CtlPing: api.CtlPing, api.CtlPingAnswer: api.CtlPing, api.CtlLength: api.CtlLength, api.CtlLenAnswer: api.CtlLength,
		api.CtlUpdate: api.CtlUpdate, api.CtlMap: api.CtlMap, api.CtlTerminate: api.CtlTerminate, api.CtlVersion: api.CtlVersion, api.CtlParams: api.CtlParams,
	}
	numbers := slices.Clone(otherKinds)
	for n := -600; n < 600; n++ {
		numbers = append(numbers, n)
	}
	for _, n := range numbers {
		w, known := want[n]
		if !known {
			w = -1
		}
		if got := ctrlpdu.Procedure(n); got != w {
			t.Errorf("Procedure(%d) = %d, want %d", n, got, w)
		}
	}
	if ctrlpdu.Procedure(api.CtlUnknown) != -1 || ctrlpdu.Procedure(api.CtlReject) != -1 {
		t.Error("Procedure of an answer that rejects")
	}
}

func TestP26_5DecodeInvertsEncode(t *testing.T) {
	random := rand.New(rand.NewSource(5))
	found := map[int]int{}
	for range 30000 {
		c := valid(random)
		b, e := ctrlpdu.Encode(c)
		if e != api.OK {
			t.Fatalf("Encode(%+v): %v", c, e)
		}
		if got, e := ctrlpdu.Decode(b); e != api.OK || got != c {
			t.Fatalf("Decode(%x) = %+v, %v, want %+v", b, got, e, c)
		}
		found[c.Kind]++
	}
	if len(found) != len(uses) {
		t.Errorf("%d kinds", len(found))
	}
}

func TestP26_6OneForm(t *testing.T) {
	random := rand.New(rand.NewSource(6))
	accepted, longest := 0, 0
	for range 60000 {
		b := spoiled(random, encode(valid(random)))
		c, e := ctrlpdu.Decode(b)
		if e != api.OK {
			continue
		}
		if got, e := ctrlpdu.Encode(c); e != api.OK || !bytes.Equal(got, b) {
			t.Fatalf("Encode of Decode(%x) = %x, %v", b, got, e)
		}
		accepted++
		longest = max(longest, len(b))
	}
	if accepted < 10000 || longest != 17 {
		t.Errorf("%d were accepted, the longest one has %d bytes", accepted, longest)
	}
}

func TestR5ResultsAreNewMemory(t *testing.T) {
	for _, f := range forms {
		first, _ := ctrlpdu.Encode(f.c)
		second, _ := ctrlpdu.Encode(f.c)
		spoil(first)
		if hex.EncodeToString(second) != f.form {
			t.Errorf("the form of %+v became %x", f.c, second)
		}
		b := append(unhex(t, f.form), 77, 78)
		if got, e := ctrlpdu.Decode(b[:len(b)-2]); e != api.OK || got != f.c || hex.EncodeToString(b) != f.form+"4d4e" {
			t.Errorf("Decode(%s) = %+v, %v, and the form became %x", f.form, got, e, b)
		}
	}
}

// spoil overwrites all memory of b.
func spoil(b []byte) {
	b = b[:cap(b)]
	for i := range b {
		b[i] = 99
	}
}

// check is P26.1.
func check(c api.Control) api.Errno {
	fields, known := uses[c.Kind]
	if !known {
		return api.ErrKind
	}
	without := c
	without.Kind = 0
	for _, letter := range fields {
		erase(&without, letter)
	}
	if without != (api.Control{}) {
		return api.ErrInvalid
	}
	for _, letter := range fields {
		if e := checkField(c, letter); e != api.OK {
			return e
		}
	}
	return api.OK
}

// erase makes a field zero.
func erase(c *api.Control, letter rune) {
	switch letter {
	case 'U':
		c.Update = api.Update{}
	case 'M':
		c.Map = 0
	case 'I':
		c.Instant = 0
	case 'R':
		c.Reason = 0
	case 'J':
		c.Rejected = 0
	case 'S':
		c.Salt = 0
	case 'K':
		c.Mark = 0
	case 'F':
		c.Features = 0
	case 'V':
		c.Version = 0
	case 'L':
		c.Length = 0
	}
}

// checkField returns the error of a field that is used.
func checkField(c api.Control, letter rune) api.Errno {
	outside := func(n, least, greatest int) api.Errno {
		if n >= least && n <= greatest {
			return api.OK
		}
		return api.ErrRange
	}
	switch letter {
	case 'U':
		return connect.CheckUpdate(c.Update)
	case 'M':
		return chanmap.Check(c.Map)
	case 'R':
		return outside(c.Reason, 0, 255)
	case 'J':
		return outside(c.Rejected, 0, 255)
	case 'V':
		return outside(c.Version, 0, 255)
	case 'L':
		return outside(c.Length, 27, 251)
	}
	return api.OK
}

// encode is the form of a valid control PDU.
func encode(c api.Control) []byte {
	b := []byte{byte(c.Kind)}
	for _, letter := range uses[c.Kind] {
		switch letter {
		case 'U':
			b = append(b, byte(c.Update.WinSize))
			for _, n := range []int{c.Update.WinOffset, c.Update.Interval, c.Update.Latency, c.Update.Timeout} {
				b = binary.LittleEndian.AppendUint16(b, uint16(n))
			}
		case 'M':
			b = append(b, binary.LittleEndian.AppendUint64(nil, uint64(c.Map))[:5]...)
		case 'I':
			b = binary.LittleEndian.AppendUint16(b, c.Instant)
		case 'R':
			b = append(b, byte(c.Reason))
		case 'J':
			b = append(b, byte(c.Rejected))
		case 'S':
			b = binary.LittleEndian.AppendUint64(b, c.Salt)
		case 'K':
			b = binary.LittleEndian.AppendUint64(b, c.Mark)
		case 'F':
			b = binary.LittleEndian.AppendUint64(b, c.Features)
		case 'V':
			b = append(b, byte(c.Version))
		case 'L':
			b = append(b, byte(c.Length))
		}
	}
	return b
}

// decode is P26.3.
func decode(b []byte) (api.Control, api.Errno) {
	if len(b) == 0 {
		return api.Control{}, api.ErrTruncated
	}
	kind := int(b[0])
	if _, known := uses[kind]; !known {
		return api.Control{}, api.ErrKind
	}
	size := len(encode(api.Control{Kind: kind}))
	if len(b) < size {
		return api.Control{}, api.ErrTruncated
	}
	if len(b) > size {
		return api.Control{}, api.ErrSyntax
	}
	c := stated(kind, b[1:])
	if e := check(c); e != api.OK {
		return api.Control{}, e
	}
	return c, api.OK
}

// stated returns the control PDU that the bytes of its fields state.
func stated(kind int, b []byte) api.Control {
	c := api.Control{Kind: kind}
	two := func(i int) int { return int(b[i]) + 256*int(b[i+1]) }
	switch kind {
	case 0, 15:
		c.Update = api.Update{WinSize: int(b[0]), WinOffset: two(1), Interval: two(3), Latency: two(5), Timeout: two(7)}
		if kind == 0 {
			c.Instant = uint16(two(9))
		}
	case 1:
		c.Map = api.ChannelMap(two(0)) + api.ChannelMap(two(2))<<16 + api.ChannelMap(b[4])<<32
		c.Instant = uint16(two(5))
	case 2:
		c.Reason = int(b[0])
	case 3:
		c.Salt, c.Mark = binary.LittleEndian.Uint64(b), binary.LittleEndian.Uint64(b[8:])
	case 4:
		c.Salt = binary.LittleEndian.Uint64(b)
	case 7:
		c.Rejected = int(b[0])
	case 8, 9:
		c.Features = binary.LittleEndian.Uint64(b)
	case 12:
		c.Version = int(b[0])
	case 13:
		c.Reason, c.Rejected = int(b[0]), int(b[1])
	case 20, 21:
		c.Length = int(b[0])
	}
	return c
}

// valid returns a random valid control PDU.
func valid(random *rand.Rand) api.Control {
	kinds := []int{0, 1, 2, 3, 4, 5, 6, 7, 8, 9, 12, 13, 15, 18, 19, 20, 21}
	c := api.Control{Kind: kinds[random.Intn(len(kinds))]}
	for _, letter := range uses[c.Kind] {
		switch letter {
		case 'U':
			c.Update = someUpdate(random)
		case 'M':
			for chanmap.Check(c.Map) != api.OK {
				c.Map = api.ChannelMap(random.Uint64()) & api.AllChannels
			}
		case 'I':
			c.Instant = uint16(random.Intn(65536))
		case 'R':
			c.Reason = random.Intn(256)
		case 'J':
			c.Rejected = random.Intn(256)
		case 'S':
			c.Salt = random.Uint64()
		case 'K':
			c.Mark = random.Uint64()
		case 'F':
			c.Features = random.Uint64()
		case 'V':
			c.Version = random.Intn(256)
		case 'L':
			c.Length = 27 + random.Intn(225)
		}
	}
	return c
}

// someUpdate returns a random valid update.
func someUpdate(random *rand.Rand) api.Update {
	for {
		interval := 6 + random.Intn(400)
		u := api.Update{WinSize: 1 + random.Intn(8), WinOffset: random.Intn(interval + 1), Interval: interval, Latency: random.Intn(10), Timeout: 10 + random.Intn(3191)}
		if connect.CheckUpdate(u) == api.OK {
			return u
		}
	}
}

// mixed returns a random control PDU that is often not valid.
func mixed(random *rand.Rand) api.Control {
	c := valid(random)
	wrong, set := allFaults, allSettings
	for range random.Intn(3) {
		switch random.Intn(8) {
		case 0:
			c.Kind = otherKinds[random.Intn(len(otherKinds))]
		case 1:
			set[random.Intn(len(set))].make(&c)
		case 2:
			c.Kind = random.Intn(24)
		default:
			// Most faults are in fields that the kind uses.
			f := wrong[random.Intn(len(wrong))]
			for range 100 {
				if strings.Contains(uses[c.Kind], f.letter) {
					break
				}
				f = wrong[random.Intn(len(wrong))]
			}
			f.make(&c)
		}
	}
	return c
}

var allFaults, allSettings = faults(), settings()

// spoiled returns b, often with a byte changed, or longer or shorter.
func spoiled(random *rand.Rand, b []byte) []byte {
	for range random.Intn(3) {
		if len(b) < 2 {
			return b
		}
		switch random.Intn(6) {
		case 0:
			b[0] = byte(random.Intn(24))
		case 1:
			b[random.Intn(len(b))] ^= 1 << random.Intn(8)
		case 2:
			b = b[:random.Intn(len(b))]
		case 3:
			b = append(b, noise(random, 1+random.Intn(20))...)
		case 4:
			copy(b[1:], noise(random, 5))
		case 5:
			copy(b[1:], make([]byte, 5))
		}
	}
	return b
}

// noise returns n random bytes.
func noise(random *rand.Rand, n int) []byte {
	b := make([]byte, n)
	random.Read(b)
	return b
}

// zeros is the text of n bytes that are 0.
func zeros(n int) string {
	return strings.Repeat("00", n)
}

func unhex(t *testing.T, s string) []byte {
	t.Helper()
	b, err := hex.DecodeString(s)
	if err != nil {
		t.Fatal(err)
	}
	return b
}
