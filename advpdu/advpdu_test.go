package advpdu_test

import (
	"bytes"
	"encoding/hex"
	"math"
	"math/rand"
	"slices"
	"strings"
	"testing"

	"wireless/address"
	"wireless/advpdu"
	"wireless/api"
	"wireless/connect"
)

// The addresses of the tests, one of each kind, and their seven bytes.
var (
	public     = api.Address{Kind: api.AddrPublic, Bits: 0xa1b2c3d4}
	static     = api.Address{Kind: api.AddrStatic, Bits: 0xc00000000001}
	resolvable = api.Address{Kind: api.AddrResolvable, Bits: 0x400001000005}
	anonymous  = api.Address{Kind: api.AddrAnonymous, Bits: 0x123456789abc}
)

const (
	publicForm     = "01d4c3b2a10000"
	staticForm     = "020100000000c0"
	resolvableForm = "03050000010040"
	anonymousForm  = "04bc9a78563412"
)

// conn are connection parameters with the numbers of the examples of the layer connect.
var conn = api.ConnParams{Access: 0x12345678, Init: 0xabcdef, Update: api.Update{WinSize: 2, WinOffset: 3, Interval: 40, Latency: 4, Timeout: 100}, Map: 33, Hop: 7, PPM: 70, Algorithm: api.HopSum}

// other are connection parameters with other numbers.
var other = api.ConnParams{Access: 0xffffffff, Init: 0xffffff, Update: api.Update{WinSize: 8, WinOffset: 3200, Interval: 3200, Timeout: 3200}, Map: api.AllChannels, Hop: 16, PPM: 500, Algorithm: api.HopMix}

const (
	connForm  = "78563412efcdab0203002800040064002100000000" + "07460001"
	otherForm = "ffffffffffffff08800c800c0000800cffffffff1f" + "10f40102"
)

// forms are PDUs with their forms, which were written apart from the program.
var forms = []struct {
	p    api.AdvPDU
	form string
}{
	{api.AdvPDU{Kind: api.AdvPlain, Sender: public, Data: []byte{1, 5}}, "0209" + publicForm + "0105"},
	{api.AdvPDU{Kind: api.AdvPlain, Sender: static, Data: []byte{1, 5}}, "4209" + staticForm + "0105"},
	{api.AdvPDU{Kind: api.AdvPlain, Sender: anonymous}, "4207" + anonymousForm},
	{api.AdvPDU{Kind: api.AdvPlain, Sender: public, Data: fill(31)}, "0226" + publicForm + strings.Repeat("a5", 31)},
	{api.AdvPDU{Kind: api.AdvConnectable, Sender: public}, "0007" + publicForm},
	{api.AdvPDU{Kind: api.AdvConnectable, Sender: resolvable, Data: []byte{0}}, "4008" + resolvableForm + "00"},
	{api.AdvPDU{Kind: api.AdvConnectable, Sender: static, Data: fill(30)}, "4025" + staticForm + strings.Repeat("a5", 30)},
	{api.AdvPDU{Kind: api.AdvScanAnswer, Sender: public, Data: []byte{2, 1, 6}}, "040a" + publicForm + "020106"},
	{api.AdvPDU{Kind: api.AdvScanAnswer, Sender: anonymous, Data: fill(31)}, "4426" + anonymousForm + strings.Repeat("a5", 31)},
	{api.AdvPDU{Kind: api.AdvScannable, Sender: static}, "4607" + staticForm},
	{api.AdvPDU{Kind: api.AdvScannable, Sender: public, Data: []byte{255}}, "0608" + publicForm + "ff"},
	{api.AdvPDU{Kind: api.AdvDirected, Sender: public, Target: public}, "010e" + publicForm + publicForm},
	{api.AdvPDU{Kind: api.AdvDirected, Sender: static, Target: public}, "410e" + staticForm + publicForm},
	{api.AdvPDU{Kind: api.AdvDirected, Sender: public, Target: resolvable}, "810e" + publicForm + resolvableForm},
	{api.AdvPDU{Kind: api.AdvDirected, Sender: anonymous, Target: static}, "c10e" + anonymousForm + staticForm},
	{api.AdvPDU{Kind: api.AdvScanRequest, Sender: public, Target: static}, "830e" + publicForm + staticForm},
	{api.AdvPDU{Kind: api.AdvScanRequest, Sender: resolvable, Target: anonymous}, "c30e" + resolvableForm + anonymousForm},
	{api.AdvPDU{Kind: api.AdvConnect, Sender: public, Target: public, Conn: conn}, "0527" + publicForm + publicForm + connForm},
	{api.AdvPDU{Kind: api.AdvConnect, Sender: static, Target: public, Conn: other}, "4527" + staticForm + publicForm + otherForm},
	{api.AdvPDU{Kind: api.AdvConnect, Sender: public, Target: static, Conn: conn}, "8527" + publicForm + staticForm + connForm},
	{api.AdvPDU{Kind: api.AdvConnect, Sender: resolvable, Target: resolvable, Conn: other}, "c527" + resolvableForm + resolvableForm + otherForm},
}

// otherKinds are numbers that are not kinds; some of them end with bits that are.
var otherKinds = []int{math.MinInt, math.MinInt + 2, -256, -16, -2, -1, 7, 8, 9, 15, 16, 21, 22, 66, 69, 255, 256, 258, 1<<32 + 5, 1<<48 + 2, math.MaxInt - 1, math.MaxInt}

// faults make a valid PDU invalid, in the order in which Check looks for them; each one is found unless an earlier one is there. A fault is for the kinds that fits reports.
var faults = []struct {
	comment string
	fits    func(kind int) bool
	make    func(p *api.AdvPDU)
	want    api.Errno
}{
	{"no sender", all, func(p *api.AdvPDU) { p.Sender = api.Address{} }, api.ErrKind},
	{"a sender of an unknown kind", all, func(p *api.AdvPDU) { p.Sender.Kind = 5 }, api.ErrKind},
	{"a sender with too great a number", all, func(p *api.AdvPDU) { p.Sender.Bits |= 1 << 48 }, api.ErrRange},
	{"a sender with a wrong prefix", all, func(p *api.AdvPDU) { p.Sender = api.Address{Kind: api.AddrStatic, Bits: 1} }, api.ErrInvalid},
	{"no target", hasTarget, func(p *api.AdvPDU) { p.Target = api.Address{} }, api.ErrKind},
	{"a target of an unknown kind", hasTarget, func(p *api.AdvPDU) { p.Target.Kind = -1 }, api.ErrKind},
	{"a target with too great a number", hasTarget, func(p *api.AdvPDU) { p.Target.Bits |= 1 << 63 }, api.ErrRange},
	{"a target with a wrong random part", hasTarget, func(p *api.AdvPDU) { p.Target = api.Address{Kind: api.AddrAnonymous} }, api.ErrInvalid},
	{"a target that is not wanted", hasData, func(p *api.AdvPDU) { p.Target = static }, api.ErrInvalid},
	{"a target without a kind that is not wanted", hasData, func(p *api.AdvPDU) { p.Target = api.Address{Bits: 1} }, api.ErrInvalid},
	{"an invalid target that is not wanted", hasData, func(p *api.AdvPDU) { p.Target = api.Address{Kind: 5} }, api.ErrInvalid},
	{"32 bytes of data", hasData, func(p *api.AdvPDU) { p.Data = fill(32) }, api.ErrTooLong},
	{"287 bytes of data", hasData, func(p *api.AdvPDU) { p.Data = fill(256 + 31) }, api.ErrTooLong},
	{"a byte of data that is not wanted", hasTarget, func(p *api.AdvPDU) { p.Data = fill(1) }, api.ErrInvalid},
	{"32 bytes of data that are not wanted", hasTarget, func(p *api.AdvPDU) { p.Data = fill(32) }, api.ErrInvalid},
	{"no connection parameters", hasConn, func(p *api.AdvPDU) { p.Conn = api.ConnParams{} }, api.ErrInvalid},
	{"the access address of advertising", hasConn, func(p *api.AdvPDU) { p.Conn.Access = api.AdvAccess }, api.ErrInvalid},
	{"a window offset that is too great", hasConn, func(p *api.AdvPDU) { p.Conn.Update.WinOffset, p.Conn.Update.Interval = 41, 40 }, api.ErrMismatch},
	{"an increment of 17", hasConn, func(p *api.AdvPDU) { p.Conn.Hop = 17 }, api.ErrRange},
	{"an unknown algorithm", hasConn, func(p *api.AdvPDU) { p.Conn.Algorithm = 0 }, api.ErrKind},
	{"connection parameters that are not wanted", hasNoConn, func(p *api.AdvPDU) { p.Conn = conn }, api.ErrInvalid},
	{"invalid connection parameters that are not wanted", hasNoConn, func(p *api.AdvPDU) { p.Conn = api.ConnParams{Hop: 17} }, api.ErrInvalid},
	{"an update that is not wanted", hasNoConn, func(p *api.AdvPDU) { p.Conn = api.ConnParams{Update: api.Update{Timeout: 1}} }, api.ErrInvalid},
}

// all, hasTarget, hasData, hasConn and hasNoConn tell which kinds have what, as the chapter lists them.
func all(int) bool { return true }

func hasTarget(kind int) bool { return kind == 1 || kind == 3 || kind == 5 }

func hasData(kind int) bool { return kind == 0 || kind == 2 || kind == 4 || kind == 6 }

func hasConn(kind int) bool { return kind == 5 }

func hasNoConn(kind int) bool { return kind != 5 }

func TestP19_1CheckExamples(t *testing.T) {
	plain := api.AdvPDU{Kind: api.AdvPlain, Sender: public, Data: []byte{1, 5}}
	targeted, long := plain, plain
	targeted.Target, long.Data = static, fill(32)
	for _, c := range []struct {
		p    api.AdvPDU
		want api.Errno
	}{
		{plain, api.OK}, {targeted, api.ErrInvalid}, {long, api.ErrTooLong}, {api.AdvPDU{}, api.ErrKind}, {api.AdvPDU{Kind: 7, Sender: public}, api.ErrKind}, {api.AdvPDU{Kind: -1, Sender: public}, api.ErrKind},
		{api.AdvPDU{Kind: api.AdvConnectable, Sender: public}, api.OK}, {api.AdvPDU{Kind: api.AdvConnectable, Sender: public, Data: []byte{}}, api.OK}, {api.AdvPDU{Kind: api.AdvDirected, Sender: public, Target: static, Data: []byte{}}, api.OK},
		{api.AdvPDU{Kind: api.AdvConnect, Sender: public, Target: static}, api.ErrInvalid}, {api.AdvPDU{Kind: api.AdvScanRequest, Sender: public}, api.ErrKind},
	} {
		if got := advpdu.Check(c.p); got != c.want {
			t.Errorf("Check(%v) = %v, want %v", c.p, got, c.want)
		}
	}
}

func TestP19_1CheckFindsEachFault(t *testing.T) {
	for _, f := range forms {
		if got := advpdu.Check(f.p); got != api.OK {
			t.Errorf("Check(%v) = %v", f.p, got)
		}
		for _, fault := range faults {
			if !fault.fits(f.p.Kind) {
				continue
			}
			p := f.p
			fault.make(&p)
			if got := advpdu.Check(p); got != fault.want {
				t.Errorf("Check(%v) with %s = %v, want %v", p, fault.comment, got, fault.want)
			}
		}
	}
}

func TestP19_1CheckLooksForTheKindFirst(t *testing.T) {
	for _, kind := range otherKinds {
		for _, f := range forms {
			p := f.p
			p.Kind = kind
			if got := advpdu.Check(p); got != api.ErrKind {
				t.Errorf("Check(%v) = %v", p, got)
			}
		}
		p := api.AdvPDU{Kind: kind, Sender: api.Address{Kind: api.AddrPublic, Bits: 1 << 48}, Target: static, Data: fill(32), Conn: conn}
		if got := advpdu.Check(p); got != api.ErrKind {
			t.Errorf("Check(%v) = %v", p, got)
		}
	}
}

func TestP19_1CheckReturnsTheFirstError(t *testing.T) {
	for _, f := range forms {
		for i, first := range faults {
			for _, second := range faults[i+1:] {
				if !first.fits(f.p.Kind) || !second.fits(f.p.Kind) {
					continue
				}
				// The later fault is made first, so that the earlier one stays if both are in the same field.
				p := f.p
				second.make(&p)
				first.make(&p)
				if got := advpdu.Check(p); got != check(p) || got != first.want {
					t.Errorf("Check(%v) with %s and %s = %v, want %v", p, first.comment, second.comment, got, first.want)
				}
			}
		}
	}
}

func TestP19_1CheckFollowsTheDefinition(t *testing.T) {
	random := rand.New(rand.NewSource(1))
	found := map[api.Errno]int{}
	for range 100000 {
		p := mixed(random)
		data := slices.Clone(p.Data)
		got, want := advpdu.Check(p), check(p)
		if got != want {
			t.Fatalf("Check(%v) = %v, want %v", p, got, want)
		}
		if !bytes.Equal(p.Data, data) {
			t.Fatalf("the data became %x", p.Data)
		}
		found[got]++
	}
	for _, e := range []api.Errno{api.OK, api.ErrKind, api.ErrRange, api.ErrInvalid, api.ErrTooLong} {
		if found[e] < 100 {
			t.Errorf("the result was %v only %d times", e, found[e])
		}
	}
}

func TestP19_2EncodeExamples(t *testing.T) {
	for _, f := range forms {
		data := slices.Clone(f.p.Data)
		if got, e := advpdu.Encode(f.p); e != api.OK || hex.EncodeToString(got) != f.form {
			t.Errorf("Encode(%v) = %x, %v, want %s", f.p, got, e, f.form)
		}
		if !bytes.Equal(f.p.Data, data) {
			t.Errorf("the data became %x", f.p.Data)
		}
	}
}

func TestP19_2EncodeReturnsTheErrorOfCheck(t *testing.T) {
	for _, f := range forms {
		for _, fault := range faults {
			if !fault.fits(f.p.Kind) {
				continue
			}
			p := f.p
			fault.make(&p)
			if got, e := advpdu.Encode(p); e != fault.want || len(got) != 0 {
				t.Errorf("Encode(%v) with %s = %x, %v, want %v", p, fault.comment, got, e, fault.want)
			}
		}
		for _, kind := range otherKinds {
			p := f.p
			p.Kind = kind
			if got, e := advpdu.Encode(p); e != api.ErrKind || len(got) != 0 {
				t.Errorf("Encode(%v) = %x, %v", p, got, e)
			}
		}
	}
}

func TestP19_2EncodeFollowsTheDefinition(t *testing.T) {
	random := rand.New(rand.NewSource(2))
	for range 50000 {
		p := valid(random)
		if got, e := advpdu.Encode(p); e != api.OK || !bytes.Equal(got, encode(t, p)) {
			t.Fatalf("Encode(%v) = %x, %v, want %x", p, got, e, encode(t, p))
		}
		p = mixed(random)
		if got, e := advpdu.Encode(p); e != check(p) || e != api.OK && len(got) != 0 {
			t.Fatalf("Encode(%v) = %x, %v, want %v", p, got, e, check(p))
		}
	}
}

func TestP19_3DecodeExamples(t *testing.T) {
	for _, f := range forms {
		b := unhex(t, f.form)
		if got, e := advpdu.Decode(b); e != api.OK || !equal(got, f.p) {
			t.Errorf("Decode(%s) = %v, %v, want %v", f.form, got, e, f.p)
		}
		if hex.EncodeToString(b) != f.form {
			t.Errorf("the argument became %x", b)
		}
	}
}

func TestP19_3DecodeRejects(t *testing.T) {
	zeros := func(n int) string { return strings.Repeat("00", n) }
	for _, c := range []struct {
		comment, b string
		want       api.Errno
	}{
		{"nothing", "", api.ErrTruncated}, {"half a header", "02", api.ErrTruncated}, {"half a header without a kind", "ff", api.ErrTruncated},
		{"kind 7", "0707" + publicForm, api.ErrKind}, {"kind 8", "0807" + publicForm, api.ErrKind}, {"kind 15", "0f07" + publicForm, api.ErrKind}, {"kind 7 and bit 4", "1707" + publicForm, api.ErrKind}, {"kind 15 and all other bits", "ff07" + publicForm, api.ErrKind}, {"kind 7 and too few bytes", "0708", api.ErrKind}, {"kind 7 and too many bytes", "070000", api.ErrKind}, {"the example with 87", "870e" + publicForm + staticForm, api.ErrKind},
		{"bit 4", "1209" + publicForm + "0105", api.ErrSyntax}, {"bit 5", "2209" + publicForm + "0105", api.ErrSyntax}, {"bits 4 and 5", "3209" + publicForm + "0105", api.ErrSyntax}, {"bit 4 and too few bytes", "1209", api.ErrSyntax}, {"bit 5 and an invalid sender", "2207" + zeros(7), api.ErrSyntax}, {"the example with 93", "930e" + publicForm + staticForm, api.ErrSyntax},
		{"no payload", "0207", api.ErrTruncated}, {"a payload without its last byte", "0209" + publicForm + "01", api.ErrTruncated}, {"a payload without its last byte and with an invalid sender", "0208" + zeros(7), api.ErrTruncated}, {"255 bytes that are not there", "02ff" + publicForm, api.ErrTruncated}, {"254 of 255 bytes", "02ff" + zeros(254), api.ErrTruncated},
		{"a byte more", "0209" + publicForm + "010500", api.ErrSyntax}, {"a byte more and an invalid sender", "0207" + zeros(8), api.ErrSyntax}, {"256 bytes more", "0207" + publicForm + zeros(256), api.ErrSyntax}, {"a byte more than an empty payload", "020000", api.ErrSyntax}, {"a form twice", "0207" + publicForm + "0207" + publicForm, api.ErrSyntax},
		{"an empty payload", "0200", api.ErrTruncated}, {"an empty payload of a request", "0300", api.ErrTruncated}, {"six bytes of payload", "0206" + publicForm[:12], api.ErrTruncated}, {"a sender without a kind", "0207" + "00010000000000", api.ErrKind}, {"a sender of kind 5", "4207" + "05010000000000", api.ErrKind}, {"a static sender with a wrong prefix", "4207" + "02010000000000", api.ErrInvalid}, {"a sender of kind 5 that is said to be public", "0207" + "05010000000000", api.ErrKind}, {"an invalid sender and no target", "4307" + "02010000000000", api.ErrInvalid},
		{"no target", "0307" + publicForm, api.ErrTruncated}, {"six bytes of a target", "030d" + publicForm + publicForm[:12], api.ErrTruncated}, {"a target without a kind", "030e" + publicForm + zeros(7), api.ErrKind}, {"a target with a wrong prefix", "830e" + publicForm + "02010000000000", api.ErrInvalid}, {"an invalid target and a wrong bit 6", "c30e" + publicForm + "02010000000000", api.ErrInvalid}, {"no target and a wrong bit 6", "4307" + publicForm, api.ErrTruncated}, {"a connection request without a target", "0507" + publicForm, api.ErrTruncated}, {"a directed PDU without a target", "0107" + publicForm, api.ErrTruncated},
		{"the example with 03", "030e" + publicForm + staticForm, api.ErrSyntax}, {"a public target that is said not to be", "830e" + publicForm + publicForm, api.ErrSyntax}, {"a public sender that is said not to be", "4209" + publicForm + "0105", api.ErrSyntax}, {"a static sender that is said to be public", "0209" + staticForm + "0105", api.ErrSyntax}, {"bits 6 and 7 exchanged", "430e" + publicForm + staticForm, api.ErrSyntax}, {"bit 7 of a kind without a target", "8209" + publicForm + "0105", api.ErrSyntax}, {"bit 7 of a kind without a target and a static sender", "c209" + staticForm + "0105", api.ErrSyntax},
		{"32 bytes of data", "0227" + publicForm + zeros(32), api.ErrTooLong}, {"248 bytes of data", "02ff" + publicForm + zeros(248), api.ErrTooLong}, {"32 bytes of data and a wrong bit 6", "4227" + publicForm + zeros(32), api.ErrSyntax}, {"32 bytes of data of each kind: 0", "0027" + publicForm + zeros(32), api.ErrTooLong}, {"32 bytes of data of each kind: 4", "0427" + publicForm + zeros(32), api.ErrTooLong}, {"32 bytes of data of each kind: 6", "0627" + publicForm + zeros(32), api.ErrTooLong},
		{"a request with a byte more", "030f" + publicForm + publicForm + "00", api.ErrSyntax}, {"a directed PDU with a byte more", "010f" + publicForm + publicForm + "00", api.ErrSyntax}, {"a request with 32 bytes more", "032e" + publicForm + publicForm + zeros(32), api.ErrSyntax}, {"a request with connection parameters", "0327" + publicForm + publicForm + connForm, api.ErrSyntax},
		{"no connection parameters", "050e" + publicForm + publicForm, api.ErrTruncated}, {"24 bytes of connection parameters", "0526" + publicForm + publicForm + connForm[:48], api.ErrTruncated}, {"26 bytes of connection parameters", "0528" + publicForm + publicForm + connForm + "00", api.ErrSyntax}, {"an access address of 0", "0527" + publicForm + publicForm + zeros(4) + connForm[8:], api.ErrInvalid}, {"no algorithm", "0527" + publicForm + publicForm + connForm[:48] + "00", api.ErrKind}, {"an increment of 17", "0527" + publicForm + publicForm + connForm[:42] + "11" + connForm[44:], api.ErrRange}, {"an access address of 0 and a wrong bit 7", "8527" + publicForm + publicForm + zeros(4) + connForm[8:], api.ErrSyntax},
	} {
		if got, e := advpdu.Decode(unhex(t, c.b)); e != c.want || !equal(got, api.AdvPDU{}) {
			t.Errorf("Decode(%s), %s, = %v, %v, want %v", c.b, c.comment, got, e, c.want)
		}
	}
}

func TestP19_3DecodeNeedsAllBytesAndNoMore(t *testing.T) {
	for _, f := range forms {
		whole := unhex(t, f.form)
		for n := range len(whole) {
			if got, e := advpdu.Decode(whole[:n]); e != api.ErrTruncated || !equal(got, api.AdvPDU{}) {
				t.Errorf("Decode(%x) = %v, %v", whole[:n], got, e)
			}
		}
		for _, more := range [][]byte{{0}, {255}, whole, make([]byte, 256), make([]byte, 100000)} {
			if got, e := advpdu.Decode(slices.Concat(whole, more)); e != api.ErrSyntax || !equal(got, api.AdvPDU{}) {
				t.Errorf("Decode(%x, followed by %d bytes) = %v, %v", whole, len(more), got, e)
			}
		}
	}
}

func TestP19_3DecodeOfEachFirstByte(t *testing.T) {
	for _, f := range forms {
		for first := range 256 {
			b := unhex(t, f.form)
			b[0] = byte(first)
			want, e := decode(b)
			if got, gotE := advpdu.Decode(b); gotE != e || !equal(got, want) {
				t.Errorf("Decode(%x) = %v, %v, want %v, %v", b, got, gotE, want, e)
			}
		}
	}
}

func TestP19_3DecodeFollowsTheDefinition(t *testing.T) {
	found := map[api.Errno]int{}
	for b := range someForms(t, 3) {
		before := slices.Clone(b)
		want, e := decode(b)
		if got, gotE := advpdu.Decode(b); gotE != e || !equal(got, want) {
			t.Fatalf("Decode(%x) = %v, %v, want %v, %v", b, got, gotE, want, e)
		}
		if !bytes.Equal(b, before) {
			t.Fatalf("the argument %x became %x", before, b)
		}
		found[e]++
	}
	for _, e := range []api.Errno{api.OK, api.ErrKind, api.ErrRange, api.ErrInvalid, api.ErrTooLong, api.ErrSyntax, api.ErrTruncated, api.ErrMismatch} {
		if found[e] < 100 {
			t.Errorf("the result was %v only %d times", e, found[e])
		}
	}
}

func TestP19_4ScannableAndConnectable(t *testing.T) {
	kinds := []struct {
		kind                   int
		scannable, connectable bool
	}{
		{api.AdvConnectable, true, true}, {api.AdvDirected, false, true}, {api.AdvPlain, false, false}, {api.AdvScanRequest, false, false}, {api.AdvScanAnswer, false, false}, {api.AdvConnect, false, false}, {api.AdvScannable, true, false},
	}
	for _, c := range kinds {
		if got := advpdu.Scannable(c.kind); got != c.scannable {
			t.Errorf("Scannable(%d) = %t", c.kind, got)
		}
		if got := advpdu.Connectable(c.kind); got != c.connectable {
			t.Errorf("Connectable(%d) = %t", c.kind, got)
		}
	}
	for _, kind := range otherKinds {
		if advpdu.Scannable(kind) || advpdu.Connectable(kind) {
			t.Errorf("%d, which is not a kind, is scannable or connectable", kind)
		}
	}
}

func TestP19_5DecodeInvertsEncode(t *testing.T) {
	random := rand.New(rand.NewSource(4))
	forms := map[string]api.AdvPDU{}
	for range 50000 {
		p := valid(random)
		b, e := advpdu.Encode(p)
		if e != api.OK {
			t.Fatalf("Encode(%v): %v", p, e)
		}
		if got, e := advpdu.Decode(b); e != api.OK || !equal(got, p) {
			t.Fatalf("Decode(%x) = %v, %v, want %v", b, got, e, p)
		}
		if same, found := forms[string(b)]; found && !equal(same, p) {
			t.Fatalf("%v and %v have the same form", same, p)
		}
		forms[string(b)] = p
	}
}

func TestP19_5DecodedBytesAreTheFormOfTheResult(t *testing.T) {
	accepted := 0
	for b := range someForms(t, 5) {
		p, e := advpdu.Decode(b)
		if e != api.OK {
			continue
		}
		accepted++
		if e := advpdu.Check(p); e != api.OK {
			t.Fatalf("Decode(%x) = %v, which is not valid: %v", b, p, e)
		}
		if got, e := advpdu.Encode(p); e != api.OK || !bytes.Equal(got, b) {
			t.Fatalf("Encode(%v) = %x, %v, want %x", p, got, e, b)
		}
	}
	if accepted < 1000 {
		t.Errorf("only %d forms were accepted", accepted)
	}
}

func TestP19_6FormsHaveFrom9To41Bytes(t *testing.T) {
	random := rand.New(rand.NewSource(6))
	lengths := map[int]bool{}
	for range 50000 {
		p := valid(random)
		b, e := advpdu.Encode(p)
		if e != api.OK || len(b) < 9 || len(b) > 41 || int(b[1]) != len(b)-2 {
			t.Fatalf("Encode(%v) = %x, %v", p, b, e)
		}
		lengths[len(b)] = true
	}
	for _, n := range []int{9, 16, 40, 41} {
		if !lengths[n] {
			t.Errorf("no form has %d bytes", n)
		}
	}
}

func TestR5ResultsAreNewMemory(t *testing.T) {
	for _, f := range forms {
		data := append(slices.Clone(f.p.Data), 77, 78)
		p := f.p
		p.Data = data[:len(data)-2]
		encoded, _ := advpdu.Encode(p)
		spoil(encoded)
		if !bytes.Equal(data, append(slices.Clone(f.p.Data), 77, 78)) {
			t.Errorf("the data of %v became %x", f.p, data)
		}
		b := append(unhex(t, f.form), 77, 78)
		decoded, _ := advpdu.Decode(b[:len(b)-2])
		spoil(decoded.Data)
		if hex.EncodeToString(b) != f.form+"4d4e" {
			t.Errorf("the form %s became %x", f.form, b)
		}
	}
}

// spoil overwrites all memory of b.
func spoil(b []byte) {
	b = b[:cap(b)]
	for i := range b {
		b[i] = 99
	}
}

// check is P19.1.
func check(p api.AdvPDU) api.Errno {
	if p.Kind < 0 || p.Kind > 6 {
		return api.ErrKind
	}
	if e := address.Check(p.Sender); e != api.OK {
		return e
	}
	if hasTarget(p.Kind) {
		if e := address.Check(p.Target); e != api.OK {
			return e
		}
	} else if p.Target.Kind != 0 || p.Target.Bits != 0 {
		return api.ErrInvalid
	}
	if hasData(p.Kind) && len(p.Data) > 31 {
		return api.ErrTooLong
	}
	if !hasData(p.Kind) && len(p.Data) != 0 {
		return api.ErrInvalid
	}
	if p.Kind == 5 {
		return connect.Check(p.Conn)
	}
	if p.Conn != (api.ConnParams{}) {
		return api.ErrInvalid
	}
	return api.OK
}

// encode is the form of a valid PDU.
func encode(t *testing.T, p api.AdvPDU) []byte {
	t.Helper()
	b := []byte{byte(p.Kind), 0}
	add := func(a api.Address, bit byte) {
		if a.Kind != 1 {
			b[0] += bit
		}
		b = append(b, byte(a.Kind))
		for i := range 6 {
			b = append(b, byte(a.Bits>>(8*i)))
		}
	}
	add(p.Sender, 64)
	if hasTarget(p.Kind) {
		add(p.Target, 128)
	}
	b = append(b, p.Data...)
	if p.Kind == 5 {
		form, e := connect.Encode(p.Conn)
		if e != api.OK {
			t.Fatalf("the parameters %v are not valid", p.Conn)
		}
		b = append(b, form...)
	}
	b[1] = byte(len(b) - 2)
	return b
}

// decode is P19.3.
func decode(b []byte) (api.AdvPDU, api.Errno) {
	none := api.AdvPDU{}
	if len(b) < 2 {
		return none, api.ErrTruncated
	}
	p := api.AdvPDU{Kind: int(b[0] % 16)}
	if p.Kind > 6 {
		return none, api.ErrKind
	}
	if b[0]/16%4 != 0 {
		return none, api.ErrSyntax
	}
	if len(b)-2 < int(b[1]) {
		return none, api.ErrTruncated
	}
	if len(b)-2 > int(b[1]) {
		return none, api.ErrSyntax
	}
	var e api.Errno
	rest, bits := b[2:], 0
	if p.Sender, rest, e = address.Decode(rest); e != api.OK {
		return none, e
	}
	if p.Sender.Kind != 1 {
		bits++
	}
	if hasTarget(p.Kind) {
		if p.Target, rest, e = address.Decode(rest); e != api.OK {
			return none, e
		}
		if p.Target.Kind != 1 {
			bits += 2
		}
	}
	if int(b[0]/64) != bits {
		return none, api.ErrSyntax
	}
	if hasData(p.Kind) {
		if len(rest) > 31 {
			return none, api.ErrTooLong
		}
		p.Data = rest
		return p, api.OK
	}
	if p.Kind == 5 {
		if p.Conn, e = connect.Decode(rest); e != api.OK {
			return none, e
		}
		return p, api.OK
	}
	if len(rest) != 0 {
		return none, api.ErrSyntax
	}
	return p, api.OK
}

// valid returns a random valid PDU.
func valid(random *rand.Rand) api.AdvPDU {
	p := api.AdvPDU{Kind: random.Intn(7), Sender: someAddress(random)}
	if hasTarget(p.Kind) {
		p.Target = someAddress(random)
	} else {
		p.Data = make([]byte, random.Intn(32))
		random.Read(p.Data)
	}
	if p.Kind == 5 {
		p.Conn = someConn(random)
	}
	return p
}

// mixed returns a random PDU with a few fields of others, so that it is often not valid.
func mixed(random *rand.Rand) api.AdvPDU {
	p := valid(random)
	for range random.Intn(3) {
		q := valid(random)
		switch random.Intn(7) {
		case 0:
			p.Kind = append([]int{q.Kind, q.Kind}, otherKinds...)[random.Intn(2+len(otherKinds))]
		case 1:
			p.Sender = q.Target
		case 2:
			p.Target = q.Target
		case 3:
			p.Data = append(q.Data, fill(random.Intn(40))...)
		case 4:
			p.Conn = q.Conn
		case 5:
			p.Sender.Bits ^= 1 << random.Intn(64)
		case 6:
			p.Target.Bits ^= 1 << random.Intn(64)
		}
	}
	return p
}

// someAddress returns a random valid address.
func someAddress(random *rand.Rand) api.Address {
	return address.Random(1+random.Intn(4), random.Uint64())
}

// someConn returns random valid connection parameters.
func someConn(random *rand.Rand) api.ConnParams {
	p := []api.ConnParams{conn, other}[random.Intn(2)]
	p.Access = 1 + uint32(random.Intn(1<<31))
	p.Init = uint32(random.Intn(1 << 24))
	p.Map = 3 | api.ChannelMap(random.Intn(1<<37))
	p.Hop = 5 + random.Intn(12)
	p.PPM = random.Intn(501)
	return p
}

// someForms yields forms of random PDUs, most of them with mistakes.
func someForms(t *testing.T, seed int64) func(yield func([]byte) bool) {
	return func(yield func([]byte) bool) {
		random := rand.New(rand.NewSource(seed))
		for range 200000 {
			b := encode(t, valid(random))
			for range random.Intn(3) {
				b = spoiled(random, b)
			}
			if !yield(b) {
				return
			}
		}
	}
}

// spoiled returns b with a byte changed, or longer or shorter, often so that the header still fits.
func spoiled(random *rand.Rand, b []byte) []byte {
	if len(b) == 0 {
		return b
	}
	fits := random.Intn(4) > 0
	switch random.Intn(5) {
	case 0:
		b[0] = byte(random.Intn(256))
	case 1:
		b[random.Intn(len(b))] ^= 1 << random.Intn(8)
	case 2:
		b[random.Intn(len(b))] = byte(random.Intn(6))
	case 3:
		b = b[:random.Intn(len(b))]
	case 4:
		b = append(b, fill(1+random.Intn(30))...)
	}
	if fits && len(b) > 1 {
		b[1] = byte(len(b) - 2)
	}
	return b
}

// fill returns n bytes that are not zero.
func fill(n int) []byte {
	return bytes.Repeat([]byte{0xa5}, n)
}

func equal(p, q api.AdvPDU) bool {
	return p.Kind == q.Kind && p.Sender == q.Sender && p.Target == q.Target && bytes.Equal(p.Data, q.Data) && p.Conn == q.Conn
}

func unhex(t *testing.T, s string) []byte {
	t.Helper()
	b, err := hex.DecodeString(s)
	if err != nil {
		t.Fatal(err)
	}
	return b
}
