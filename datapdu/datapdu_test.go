package datapdu_test

import (
	"bytes"
	"encoding/hex"
	"math"
	"math/rand"
	"slices"
	"strings"
	"testing"

	"wireless/api"
	"wireless/datapdu"
)

// forms are PDUs with their forms, which were written apart from the program.
var forms = []struct {
	p    api.DataPDU
	form string
}{
	{pdu(1, 0, 1, api.LLStart, 7), "1a0107"}, {pdu(0, 0, 0, api.LLContinue), "0100"}, {pdu(1, 1, 1, api.LLContinue), "1d00"}, {pdu(1, 1, 1, api.LLControl, 255), "1f01ff"},
	{pdu(0, 1, 0, api.LLContinue), "0500"}, {pdu(1, 0, 0, api.LLContinue), "0900"}, {pdu(0, 0, 1, api.LLContinue), "1100"}, {pdu(0, 0, 0, api.LLContinue, 0), "010100"}, {pdu(0, 0, 0, api.LLContinue, 0, 0), "01020000"},
	{pdu(0, 0, 0, api.LLStart, 0), "020100"}, {pdu(0, 1, 0, api.LLStart, 1), "060101"}, {pdu(1, 0, 0, api.LLStart, 2, 3), "0a020203"}, {pdu(0, 0, 1, api.LLStart, 4), "120104"}, {pdu(1, 1, 0, api.LLStart, 5), "0e0105"}, {pdu(0, 1, 1, api.LLStart, 6), "160106"},
	{pdu(0, 0, 0, api.LLControl, 0), "030100"}, {pdu(0, 1, 0, api.LLControl, 18), "070112"}, {pdu(1, 0, 0, api.LLControl, 2, 19), "0b020213"}, {pdu(0, 0, 1, api.LLControl, 3, 2, 1), "1303030201"},
	{pdu(0, 0, 0, api.LLStart, fill(251)...), "02fb" + strings.Repeat("a5", 251)}, {pdu(1, 0, 0, api.LLContinue, fill(252)...), "09fc" + strings.Repeat("a5", 252)}, {pdu(0, 1, 1, api.LLControl, fill(254)...), "17fe" + strings.Repeat("a5", 254)}, {pdu(1, 1, 1, api.LLStart, fill(255)...), "1eff" + strings.Repeat("a5", 255)}, {pdu(0, 0, 0, api.LLContinue, fill(255)...), "01ff" + strings.Repeat("a5", 255)}, {pdu(0, 1, 0, api.LLControl, fill(255)...), "07ff" + strings.Repeat("a5", 255)},
}

// The kinds of packets, numbers that are not bits, and numbers that are not kinds; some of them end with bits that are.
var (
	kinds      = []int{api.LLContinue, api.LLStart, api.LLControl}
	otherBits  = []int{math.MinInt, math.MinInt + 1, -256, -255, -2, -1, 2, 3, 4, 8, 16, 255, 256, 257, 1 << 32, 1<<32 + 1, 1 << 62, math.MaxInt - 1, math.MaxInt}
	otherKinds = []int{math.MinInt, math.MinInt + 1, math.MinInt + 2, -256, -255, -3, -2, -1, 0, 4, 5, 6, 7, 9, 10, 17, 255, 256, 257, 258, 259, 1 << 32, 1<<32 + 1, 1<<32 + 2, 1<<32 + 3, math.MaxInt - 1, math.MaxInt}
	lengths    = []int{0, 1, 2, 3, 27, 127, 128, 250, 251, 252, 253, 254, 255}
	tooLong    = []int{256, 257, 258, 259, 260, 300, 511, 512, 513, 1000, 1 << 16, 1<<16 + 1, 100000}
)

func TestP23_1CheckAcceptsTheEdges(t *testing.T) {
	for _, f := range forms {
		if got := datapdu.Check(f.p); got != api.OK {
			t.Errorf("Check(%v) = %v", f.p, got)
		}
	}
	for p := range allHeaders {
		for n := range 256 {
			p.Packet.Payload = fill(n)
			want := api.OK
			if n == 0 && p.Packet.LLID != api.LLContinue {
				want = api.ErrInvalid
			}
			if got := datapdu.Check(p); got != want {
				t.Errorf("Check(%v) = %v, want %v", p, got, want)
			}
		}
	}
}

func TestP23_1CheckAcceptsNilAndEmptyPayloads(t *testing.T) {
	for _, empty := range [][]byte{nil, {}, make([]byte, 0, 10)} {
		for _, kind := range kinds {
			want := api.ErrInvalid
			if kind == api.LLContinue {
				want = api.OK
			}
			if got := datapdu.Check(api.DataPDU{Packet: api.Packet{LLID: kind, Payload: empty}}); got != want {
				t.Errorf("Check of an empty payload of kind %d = %v, want %v", kind, got, want)
			}
		}
	}
	if got := datapdu.Check(api.DataPDU{}); got != api.ErrKind {
		t.Errorf("Check of the zero PDU = %v", got)
	}
}

// faults make a valid PDU invalid, in the order in which Check looks for them; each one is found unless an earlier one is there.
func faults() []fault {
	var l []fault
	for _, n := range otherBits {
		l = append(l, fault{1, func(p *api.DataPDU) { p.SN = n }, api.ErrRange}, fault{1, func(p *api.DataPDU) { p.NESN = n }, api.ErrRange}, fault{1, func(p *api.DataPDU) { p.MD = n }, api.ErrRange})
	}
	for _, n := range otherKinds {
		l = append(l, fault{2, func(p *api.DataPDU) { p.Packet.LLID = n }, api.ErrKind})
	}
	for _, n := range []int{api.LLStart, api.LLControl} {
		l = append(l, fault{3, func(p *api.DataPDU) { p.Packet = api.Packet{LLID: n} }, api.ErrInvalid})
	}
	for _, n := range tooLong {
		l = append(l, fault{4, func(p *api.DataPDU) { p.Packet.Payload = fill(n) }, api.ErrTooLong})
	}
	return l
}

// A fault has a number that tells when it is looked for.
type fault struct {
	number int
	make   func(p *api.DataPDU)
	want   api.Errno
}

func TestP23_1CheckFindsEachFault(t *testing.T) {
	for _, f := range forms {
		for _, fault := range faults() {
			p := f.p
			fault.make(&p)
			if got := datapdu.Check(p); got != fault.want {
				t.Errorf("Check(%v) = %v, want %v", p, got, fault.want)
			}
		}
	}
}

func TestP23_1CheckReturnsTheFirstError(t *testing.T) {
	l := faults()
	for _, first := range l {
		for _, second := range l {
			if first.number >= second.number {
				continue
			}
			// The later fault is made first, so that the earlier one stays if both are in the same field.
			p := pdu(1, 0, 1, api.LLStart, 7)
			second.make(&p)
			first.make(&p)
			if got := datapdu.Check(p); got != first.want || got != check(p) {
				t.Errorf("Check(%v) = %v, want %v", p, got, first.want)
			}
		}
	}
	all := api.DataPDU{SN: 2, NESN: 1, MD: 1, Packet: api.Packet{LLID: 0, Payload: fill(256)}}
	if got := datapdu.Check(all); got != api.ErrRange {
		t.Errorf("Check(%v) = %v", all, got)
	}
	all.SN = 1
	if got := datapdu.Check(all); got != api.ErrKind {
		t.Errorf("Check(%v) = %v", all, got)
	}
}

func TestP23_1CheckFollowsTheDefinition(t *testing.T) {
	random := rand.New(rand.NewSource(1))
	found := map[api.Errno]int{}
	for range 100000 {
		p := mixed(random)
		payload := slices.Clone(p.Packet.Payload)
		got, want := datapdu.Check(p), check(p)
		if got != want {
			t.Fatalf("Check(%v) = %v, want %v", p, got, want)
		}
		if !bytes.Equal(p.Packet.Payload, payload) {
			t.Fatalf("the payload became %x", p.Packet.Payload)
		}
		found[got]++
	}
	for _, e := range []api.Errno{api.OK, api.ErrRange, api.ErrKind, api.ErrInvalid, api.ErrTooLong} {
		if found[e] < 100 {
			t.Errorf("the result was %v only %d times", e, found[e])
		}
	}
}

func TestP23_2EncodeExamples(t *testing.T) {
	for _, f := range forms {
		payload := slices.Clone(f.p.Packet.Payload)
		if got, e := datapdu.Encode(f.p); e != api.OK || hex.EncodeToString(got) != f.form {
			t.Errorf("Encode(%v) = %x, %v, want %s", f.p, got, e, f.form)
		}
		if !bytes.Equal(f.p.Packet.Payload, payload) {
			t.Errorf("the payload became %x", f.p.Packet.Payload)
		}
	}
	if got, e := datapdu.Encode(pdu(1, 0, 1, api.LLStart, 7)); e != api.OK || !bytes.Equal(got, []byte{26, 1, 7}) {
		t.Errorf("the example: %d, %v", got, e)
	}
}

func TestP23_2EncodeOfAllHeaders(t *testing.T) {
	random := rand.New(rand.NewSource(2))
	for p := range allHeaders {
		for n := range 256 {
			p.Packet.Payload = noise(random, n)
			if n == 0 && p.Packet.LLID != api.LLContinue {
				continue
			}
			if got, e := datapdu.Encode(p); e != api.OK || !bytes.Equal(got, encode(p)) {
				t.Fatalf("Encode(%v) = %x, %v, want %x", p, got, e, encode(p))
			}
		}
	}
}

func TestP23_2EncodeReturnsTheErrorOfCheck(t *testing.T) {
	for _, f := range forms {
		for _, fault := range faults() {
			p := f.p
			fault.make(&p)
			if got, e := datapdu.Encode(p); e != fault.want || len(got) != 0 {
				t.Errorf("Encode(%v) = %x, %v, want %v", p, got, e, fault.want)
			}
		}
	}
	random := rand.New(rand.NewSource(3))
	for range 50000 {
		p := mixed(random)
		if got, e := datapdu.Encode(p); e != check(p) || e != api.OK && len(got) != 0 {
			t.Fatalf("Encode(%v) = %x, %v, want %v", p, got, e, check(p))
		}
	}
}

func TestP23_3DecodeExamples(t *testing.T) {
	for _, f := range forms {
		b := unhex(t, f.form)
		if got, e := datapdu.Decode(b); e != api.OK || !equal(got, f.p) {
			t.Errorf("Decode(%s) = %v, %v, want %v", f.form, got, e, f.p)
		}
		if hex.EncodeToString(b) != f.form {
			t.Errorf("the argument became %x", b)
		}
	}
}

func TestP23_3DecodeRejects(t *testing.T) {
	zeros := func(n int) string { return strings.Repeat("00", n) }
	for _, c := range []struct {
		comment, b string
		want       api.Errno
	}{
		{"nothing", "", api.ErrTruncated}, {"the example with half a header", "01", api.ErrTruncated}, {"half a header without a kind", "00", api.ErrTruncated}, {"half a header with other bits", "ff", api.ErrTruncated}, {"half a header with bit 5", "21", api.ErrTruncated},
		{"the example with 33", "2100", api.ErrSyntax}, {"bit 5", "220107", api.ErrSyntax}, {"bit 6", "420107", api.ErrSyntax}, {"bit 7", "820107", api.ErrSyntax}, {"bits 5 to 7", "fa0107", api.ErrSyntax}, {"bit 5 without a kind", "200107", api.ErrSyntax}, {"bit 6 without a kind", "4000", api.ErrSyntax}, {"bit 7 without a kind and too few bytes", "8001", api.ErrSyntax}, {"bit 5 and an empty payload of a start", "2200", api.ErrSyntax}, {"bit 6 and an empty payload of a control PDU", "4300", api.ErrSyntax}, {"bit 7 and too few bytes", "8201", api.ErrSyntax}, {"bit 7 and too many bytes", "82010708", api.ErrSyntax},
		{"no kind", "000107", api.ErrKind}, {"no kind and all other bits", "1c0107", api.ErrKind}, {"no kind and an empty payload", "0000", api.ErrKind}, {"no kind and too few bytes", "0001", api.ErrKind}, {"no kind and too many bytes", "00010708", api.ErrKind}, {"no kind and the second sequence bit", "040107", api.ErrKind},
		{"the example with 2", "0200", api.ErrInvalid}, {"an empty payload of a control PDU", "0300", api.ErrInvalid}, {"an empty payload of a start with all other bits", "1e00", api.ErrInvalid}, {"an empty payload of a control PDU with all other bits", "1f00", api.ErrInvalid}, {"an empty payload of a start and a byte more", "020007", api.ErrInvalid}, {"an empty payload of a control PDU and 300 bytes more", "0300" + zeros(300), api.ErrInvalid},
		{"no payload", "0201", api.ErrTruncated}, {"no payload of a continuation", "0101", api.ErrTruncated}, {"no payload of a control PDU", "0301", api.ErrTruncated}, {"a payload without its last byte", "020207", api.ErrTruncated}, {"254 of 255 bytes", "02ff" + zeros(254), api.ErrTruncated}, {"255 bytes that are not there", "01ff", api.ErrTruncated}, {"127 of 128 bytes", "0280" + zeros(127), api.ErrTruncated},
		{"a byte more", "02010708", api.ErrSyntax}, {"a byte more than an empty payload", "010000", api.ErrSyntax}, {"a byte more than 255", "02ff" + zeros(256), api.ErrSyntax}, {"256 bytes more", "0201" + zeros(257), api.ErrSyntax}, {"256 bytes more than an empty payload", "0100" + zeros(256), api.ErrSyntax}, {"a form twice", "02010702" + "0107", api.ErrSyntax}, {"an empty PDU twice", "01000100", api.ErrSyntax}, {"65536 bytes more", "0100" + zeros(1<<16), api.ErrSyntax},
	} {
		if got, e := datapdu.Decode(unhex(t, c.b)); e != c.want || !equal(got, api.DataPDU{}) {
			t.Errorf("Decode(%s), %s, = %v, %v, want %v", c.b, c.comment, got, e, c.want)
		}
	}
}

func TestP23_3DecodeOfAllHeaders(t *testing.T) {
	payload := noise(rand.New(rand.NewSource(4)), 600)
	for first := range 256 {
		for second := range 256 {
			for _, n := range []int{0, 1, second - 1, second, second + 1, 255, 256, second + 256} {
				if n < 0 {
					continue
				}
				b := slices.Concat([]byte{byte(first), byte(second)}, payload[:n])
				want, wantE := decode(b)
				if got, e := datapdu.Decode(b); e != wantE || !equal(got, want) {
					t.Fatalf("Decode(%x) = %v, %v, want %v, %v", b, got, e, want, wantE)
				}
			}
		}
		if got, e := datapdu.Decode([]byte{byte(first)}); e != api.ErrTruncated || !equal(got, api.DataPDU{}) {
			t.Errorf("Decode(%x) = %v, %v", first, got, e)
		}
	}
}

func TestP23_3DecodeOfNilAndEmpty(t *testing.T) {
	for _, b := range [][]byte{nil, {}, []byte{1, 0}[:0]} {
		if got, e := datapdu.Decode(b); e != api.ErrTruncated || !equal(got, api.DataPDU{}) {
			t.Errorf("Decode of nothing = %v, %v", got, e)
		}
	}
	// What lies behind the end of the bytes is not theirs.
	if got, e := datapdu.Decode([]byte{2, 1, 7}[:2]); e != api.ErrTruncated || !equal(got, api.DataPDU{}) {
		t.Errorf("Decode of a beginning = %v, %v", got, e)
	}
}

func TestP23_4Blank(t *testing.T) {
	for _, kind := range append(slices.Clone(kinds), otherKinds...) {
		for _, n := range append(slices.Clone(lengths), tooLong...) {
			want := kind == api.LLContinue && n == 0
			if got := datapdu.Blank(api.Packet{LLID: kind, Payload: fill(n)}); got != want {
				t.Errorf("Blank of kind %d with %d bytes = %t", kind, n, got)
			}
		}
		for _, empty := range [][]byte{nil, {}, fill(3)[:0]} {
			if got := datapdu.Blank(api.Packet{LLID: kind, Payload: empty}); got != (kind == api.LLContinue) {
				t.Errorf("Blank of kind %d without payload = %t", kind, got)
			}
		}
	}
	if datapdu.Blank(api.Packet{LLID: api.LLContinue, Payload: []byte{0}}) {
		t.Error("a payload of a zero is not empty")
	}
}

func TestP23_5DecodeInvertsEncode(t *testing.T) {
	random := rand.New(rand.NewSource(5))
	found := map[string]api.DataPDU{}
	for p := range allHeaders {
		for n := range 256 {
			p.Packet.Payload = noise(random, n)
			b, e := datapdu.Encode(p)
			if n == 0 && p.Packet.LLID != api.LLContinue {
				continue
			}
			if e != api.OK {
				t.Fatalf("Encode(%v): %v", p, e)
			}
			if got, e := datapdu.Decode(b); e != api.OK || !equal(got, p) {
				t.Fatalf("Decode(%x) = %v, %v, want %v", b, got, e, p)
			}
			if same, ok := found[string(b)]; ok {
				t.Fatalf("%v and %v have the same bytes", same, p)
			}
			found[string(b)] = p
		}
	}
}

func TestP23_6AcceptedBytesAreThoseOfTheResult(t *testing.T) {
	random := rand.New(rand.NewSource(6))
	accepted := 0
	for range 200000 {
		b := spoiled(random, encode(valid(random)))
		p, e := datapdu.Decode(b)
		if e != api.OK {
			continue
		}
		accepted++
		if e := datapdu.Check(p); e != api.OK {
			t.Fatalf("Decode(%x) = %v, which is not valid: %v", b, p, e)
		}
		if got, e := datapdu.Encode(p); e != api.OK || !bytes.Equal(got, b) {
			t.Fatalf("Encode(%v) = %x, %v, want %x", p, got, e, b)
		}
	}
	if accepted < 1000 || accepted > 199000 {
		t.Errorf("%d of 200000 were accepted", accepted)
	}
}

func TestP23_6BeginningsAndContinuations(t *testing.T) {
	random := rand.New(rand.NewSource(7))
	for p := range allHeaders {
		for n := range 256 {
			if n == 0 && p.Packet.LLID != api.LLContinue {
				continue
			}
			p.Packet.Payload = noise(random, n)
			b, e := datapdu.Encode(p)
			if e != api.OK {
				t.Fatalf("Encode(%v): %v", p, e)
			}
			for i := range len(b) {
				if got, e := datapdu.Decode(b[:i]); e != api.ErrTruncated || !equal(got, api.DataPDU{}) {
					t.Fatalf("Decode(%x) = %v, %v", b[:i], got, e)
				}
			}
			for _, more := range [][]byte{{0}, {byte(n)}, {255}, b, make([]byte, 256)} {
				if got, e := datapdu.Decode(slices.Concat(b, more)); e != api.ErrSyntax || !equal(got, api.DataPDU{}) {
					t.Fatalf("Decode(%x, followed by %x) = %v, %v", b, more, got, e)
				}
			}
		}
	}
}

func TestR5ResultsAreNewMemory(t *testing.T) {
	for _, f := range forms {
		payload := append(slices.Clone(f.p.Packet.Payload), 77, 78)
		p := f.p
		p.Packet.Payload = payload[:len(payload)-2]
		datapdu.Check(p)
		datapdu.Blank(p.Packet)
		encoded, _ := datapdu.Encode(p)
		spoil(encoded)
		if !bytes.Equal(payload, append(slices.Clone(f.p.Packet.Payload), 77, 78)) {
			t.Errorf("the payload of %v became %x", f.p, payload)
		}
		b := append(unhex(t, f.form), 77, 78)
		decoded, _ := datapdu.Decode(b[:len(b)-2])
		spoil(decoded.Packet.Payload)
		if hex.EncodeToString(b) != f.form+"4d4e" {
			t.Errorf("the form %s became %x", f.form, b)
		}
	}
}

// spoil overwrites all memory of b.
func spoil(b []byte) {
	b = b[:cap(b)]
	for i := range b {
		b[i] = 99
	}
}

// allHeaders yields PDUs with all sequence bits and kinds, without payloads.
func allHeaders(yield func(api.DataPDU) bool) {
	for i := range 8 {
		for _, kind := range kinds {
			if !yield(pdu(i%2, i/2%2, i/4, kind)) {
				return
			}
		}
	}
}

// check is P23.1.
func check(p api.DataPDU) api.Errno {
	for _, bit := range []int{p.SN, p.NESN, p.MD} {
		if bit < 0 || bit > 1 {
			return api.ErrRange
		}
	}
	if !slices.Contains(kinds, p.Packet.LLID) {
		return api.ErrKind
	}
	if len(p.Packet.Payload) == 0 && p.Packet.LLID != 1 {
		return api.ErrInvalid
	}
	if len(p.Packet.Payload) > 255 {
		return api.ErrTooLong
	}
	return api.OK
}

// encode is the form of a valid PDU.
func encode(p api.DataPDU) []byte {
	head := p.Packet.LLID + 4*p.NESN + 8*p.SN + 16*p.MD
	return slices.Concat([]byte{byte(head), byte(len(p.Packet.Payload))}, p.Packet.Payload)
}

// decode is P23.3.
func decode(b []byte) (api.DataPDU, api.Errno) {
	none := api.DataPDU{}
	if len(b) < 2 {
		return none, api.ErrTruncated
	}
	head := int(b[0])
	if head >= 32 {
		return none, api.ErrSyntax
	}
	if head%4 == 0 {
		return none, api.ErrKind
	}
	if b[1] == 0 && head%4 != 1 {
		return none, api.ErrInvalid
	}
	if len(b)-2 < int(b[1]) {
		return none, api.ErrTruncated
	}
	if len(b)-2 > int(b[1]) {
		return none, api.ErrSyntax
	}
	return pdu(head/8%2, head/4%2, head/16, head%4, b[2:]...), api.OK
}

// valid returns a random valid PDU.
func valid(random *rand.Rand) api.DataPDU {
	p := pdu(random.Intn(2), random.Intn(2), random.Intn(2), 1+random.Intn(3), noise(random, random.Intn(256))...)
	if len(p.Packet.Payload) == 0 {
		p.Packet.LLID = api.LLContinue
	}
	return p
}

// mixed returns a random PDU that is often not valid.
func mixed(random *rand.Rand) api.DataPDU {
	p := valid(random)
	for range random.Intn(3) {
		switch random.Intn(6) {
		case 0:
			p.SN = otherBits[random.Intn(len(otherBits))]
		case 1:
			p.NESN = otherBits[random.Intn(len(otherBits))]
		case 2:
			p.MD = otherBits[random.Intn(len(otherBits))]
		case 3:
			p.Packet.LLID = otherKinds[random.Intn(len(otherKinds))]
		case 4:
			p.Packet.Payload = noise(random, 240+random.Intn(40))
		case 5:
			p.Packet = api.Packet{LLID: 1 + random.Intn(3)}
		}
	}
	return p
}

// spoiled returns b, often with a byte changed, or longer or shorter.
func spoiled(random *rand.Rand, b []byte) []byte {
	for range random.Intn(3) {
		if len(b) < 2 {
			return b
		}
		switch random.Intn(5) {
		case 0:
			b[0] = byte(random.Intn(256))
		case 1:
			b[random.Intn(len(b))] ^= 1 << random.Intn(8)
		case 2:
			b = b[:random.Intn(len(b))]
		case 3:
			b = append(b, noise(random, 1+random.Intn(20))...)
		case 4:
			b[1] = byte(len(b) - 2)
		}
	}
	return b
}

func pdu(sn, nesn, md, llid int, payload ...byte) api.DataPDU {
	return api.DataPDU{SN: sn, NESN: nesn, MD: md, Packet: api.Packet{LLID: llid, Payload: payload}}
}

// fill returns n bytes that are not zero.
func fill(n int) []byte {
	return bytes.Repeat([]byte{0xa5}, n)
}

// noise returns n random bytes.
func noise(random *rand.Rand, n int) []byte {
	b := make([]byte, n)
	random.Read(b)
	return b
}

func equal(p, q api.DataPDU) bool {
	return p.SN == q.SN && p.NESN == q.NESN && p.MD == q.MD && p.Packet.LLID == q.Packet.LLID && bytes.Equal(p.Packet.Payload, q.Packet.Payload)
}

func unhex(t *testing.T, s string) []byte {
	t.Helper()
	b, err := hex.DecodeString(s)
	if err != nil {
		t.Fatal(err)
	}
	return b
}
