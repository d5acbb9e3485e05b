package scanner_test

import (
	"fmt"
	"math"
	"math/rand"
	"slices"
	"testing"

	"wireless/accept"
	"wireless/address"
	"wireless/advertiser"
	"wireless/advpdu"
	"wireless/api"
	"wireless/mac"
	"wireless/privacy"
	"wireless/scanner"
)

const (
	second  = 1_000_000
	maxTime = 4 * api.MaxTime // greatest local time
	// otherKind is a number that is not a kind of PDUs and ends with the bits of one.
	otherKind = 1<<32 + api.AdvScannable
)

// The valid addresses of the tests; A to D and O are those of devices, O the scanner's own one; R and S are resolvable with the key 9, T with the key 8.
var (
	A = api.Address{Kind: api.AddrPublic, Bits: 0xa1b2c3d4}
	B = api.Address{Kind: api.AddrStatic, Bits: 0xc00000000001}
	C = api.Address{Kind: api.AddrPublic, Bits: 1}
	D = api.Address{Kind: api.AddrAnonymous, Bits: 1}
	O = api.Address{Kind: api.AddrPublic, Bits: 0x0123456789ab}
	R = made(9, 77)
	S = made(9, 78)
	T = made(8, 77)
)

// bad is an address that is not valid.
var bad = api.Address{Kind: api.AddrStatic, Bits: 1}

// moments are local times around which mistakes are likely, with the times to which they are limited.
var moments = []struct{ local, limited int }{
	{math.MinInt, 0}, {math.MinInt + 1, 0}, {-api.MaxTime, 0}, {-150, 0}, {-1, 0}, {0, 0}, {1, 1}, {5000, 5000}, {1<<32 - 1, 1<<32 - 1}, {1 << 32, 1 << 32}, {api.MaxTime, api.MaxTime}, {api.MaxTime + 1, api.MaxTime + 1},
	{maxTime - 1, maxTime - 1}, {maxTime, maxTime}, {maxTime + 1, maxTime}, {1 << 48, maxTime}, {math.MaxInt - 150, maxTime}, {math.MaxInt - 1, maxTime}, {math.MaxInt, maxTime},
}

// someChannels are numbers, few of which are advertising channels.
var someChannels = []int{math.MinInt, -219, -1, 0, 1, 36, 37, 38, 39, 40, 41, 256 + 37, 1<<32 + 38, math.MaxInt}

// conn are valid connection parameters.
var conn = api.ConnParams{Access: 0x12345678, Init: 0xabcdef, Update: api.Update{WinSize: 2, WinOffset: 3, Interval: 40, Latency: 4, Timeout: 100}, Map: 33, Hop: 7, PPM: 70, Algorithm: api.HopSum}

func TestP22_1StartAcceptsTheEdges(t *testing.T) {
	for i, make := range []func(p *api.ScanParams){
		func(p *api.ScanParams) {}, func(p *api.ScanParams) { p.Interval, p.Window = 4, 4 }, func(p *api.ScanParams) { p.Interval, p.Window = 5, 4 }, func(p *api.ScanParams) { p.Interval, p.Window = 16384, 16384 }, func(p *api.ScanParams) { p.Interval, p.Window = 16384, 4 }, func(p *api.ScanParams) { p.Interval, p.Window = 16384, 16383 }, func(p *api.ScanParams) { p.Interval, p.Window = 16383, 16383 },
		func(p *api.ScanParams) { p.Active = false }, func(p *api.ScanParams) { p.Unique = true }, func(p *api.ScanParams) { p.Policy = api.PolicyAll }, func(p *api.ScanParams) { p.Policy = api.PolicyScan },
		func(p *api.ScanParams) { p.Accept, p.Identities = nil, nil }, func(p *api.ScanParams) { p.Accept = many(api.MaxList) }, func(p *api.ScanParams) { p.Identities = persons(api.MaxList) }, func(p *api.ScanParams) { p.Accept, p.Identities = many(api.MaxList), persons(api.MaxList) },
		func(p *api.ScanParams) { p.Accept = []api.Address{{}, bad, A, A} }, func(p *api.ScanParams) { p.Identities = []api.Identity{{}, {Address: bad, IRK: 9}, {}} },
		func(p *api.ScanParams) { p.Own = B }, func(p *api.ScanParams) { p.Own = D }, func(p *api.ScanParams) { p.Own = R },
	} {
		p, seed := settings(), []uint64{0, 1, 9, math.MaxUint64}[i%4]
		make(&p)
		if got, e := scanner.Start(p, seed, 77); e != api.OK || !same(got, fresh(p, seed, 77)) {
			t.Errorf("Start(%v, %d, 77) = %v, %v", p, seed, got, e)
		}
	}
}

// fresh is the scanner that Start is to return.
func fresh(p api.ScanParams, seed uint64, local int) api.Scanner {
	return api.Scanner{Params: p, On: true, Start: local, Upper: 1, Count: 1, Seed: seed}
}

func TestP22_1StartLimitsTheTime(t *testing.T) {
	for _, c := range moments {
		if got, e := scanner.Start(settings(), 9, c.local); e != api.OK || !same(got, fresh(settings(), 9, c.limited)) {
			t.Errorf("Start at %d = %v, %v", c.local, got, e)
		}
	}
}

// faults make valid settings wrong, in the order in which Start looks for them; each one is found unless an earlier one is there.
var faults = []struct {
	comment string
	make    func(p *api.ScanParams)
	want    api.Errno
}{
	{"an interval of 3", func(p *api.ScanParams) { p.Interval, p.Window = 3, 3 }, api.ErrRange},
	{"an interval of 3 with a window", func(p *api.ScanParams) { p.Interval, p.Window = 3, 4 }, api.ErrRange},
	{"an interval of 16385", func(p *api.ScanParams) { p.Interval = 16385 }, api.ErrRange},
	{"the least number as interval", func(p *api.ScanParams) { p.Interval = math.MinInt }, api.ErrRange},
	{"the greatest number as interval", func(p *api.ScanParams) { p.Interval = math.MaxInt }, api.ErrRange},
	{"a window of 3", func(p *api.ScanParams) { p.Window = 3 }, api.ErrRange},
	{"no window", func(p *api.ScanParams) { p.Window = 0 }, api.ErrRange},
	{"a negative window", func(p *api.ScanParams) { p.Window = -8 }, api.ErrRange},
	{"a window of 16385", func(p *api.ScanParams) { p.Window = 16385 }, api.ErrRange},
	{"an interval and a window of 16385", func(p *api.ScanParams) { p.Interval, p.Window = 16385, 16385 }, api.ErrRange},
	{"a window that is longer by 1", func(p *api.ScanParams) { p.Interval, p.Window = 16, 17 }, api.ErrMismatch},
	{"a window that is much longer", func(p *api.ScanParams) { p.Interval, p.Window = 4, 16384 }, api.ErrMismatch},
	{"the policy -1", func(p *api.ScanParams) { p.Policy = -1 }, api.ErrRange},
	{"the policy for connections", func(p *api.ScanParams) { p.Policy = api.PolicyConnect }, api.ErrRange},
	{"the policy for both", func(p *api.ScanParams) { p.Policy = api.PolicyBoth }, api.ErrRange},
	{"the greatest number as policy", func(p *api.ScanParams) { p.Policy = math.MaxInt }, api.ErrRange},
	{"65 accepted addresses", func(p *api.ScanParams) { p.Accept = many(65) }, api.ErrTooLong},
	{"65 identities", func(p *api.ScanParams) { p.Identities = persons(65) }, api.ErrTooLong},
	{"1000 identities", func(p *api.ScanParams) { p.Identities = persons(1000) }, api.ErrTooLong},
	{"no own address", func(p *api.ScanParams) { p.Own = api.Address{} }, api.ErrKind},
	{"an own address with too great a number", func(p *api.ScanParams) { p.Own = api.Address{Kind: api.AddrPublic, Bits: 1 << 48} }, api.ErrRange},
	{"an own address with a wrong prefix", func(p *api.ScanParams) { p.Own = bad }, api.ErrInvalid},
}

func TestP22_1StartReturnsTheFirstError(t *testing.T) {
	for i, first := range faults {
		// The later fault is made first, so that the earlier one stays if both are in the same field; it can be the earlier one itself.
		for _, later := range faults[i:] {
			p := settings()
			later.make(&p)
			first.make(&p)
			if got, e := scanner.Start(p, 9, 5000); e != first.want || !same(got, api.Scanner{}) {
				t.Errorf("Start with %s and %s = %v, %v, want %v", first.comment, later.comment, got, e, first.want)
			}
		}
	}
	if got, e := scanner.Start(api.ScanParams{}, 0, 0); e != api.ErrRange || !same(got, api.Scanner{}) {
		t.Errorf("Start of no settings = %v, %v", got, e)
	}
}

func TestP22_2ChannelExample(t *testing.T) {
	p := settings()
	p.Interval, p.Window = 16, 8
	s := started(t, p, 9, 1000)
	for _, c := range []struct {
		local, channel int
		listens        bool
	}{
		{math.MinInt, 0, false}, {-1, 0, false}, {0, 0, false}, {999, 0, false}, {1000, 37, true}, {1001, 37, true}, {5999, 37, true}, {6000, 0, false}, {10999, 0, false}, {11000, 38, true}, {15999, 38, true}, {16000, 0, false}, {20999, 0, false}, {21000, 39, true}, {25999, 39, true}, {26000, 0, false}, {30999, 0, false}, {31000, 37, true}, {35999, 37, true}, {36000, 0, false}, {41000, 38, true}, {51000, 39, true}, {61000, 37, true},
	} {
		if channel, listens := scanner.Channel(s, c.local); channel != c.channel || listens != c.listens {
			t.Errorf("Channel at %d = %d, %t, want %d, %t", c.local, channel, listens, c.channel, c.listens)
		}
	}
}

func TestP22_2ChannelFollowsTheDefinition(t *testing.T) {
	random := rand.New(rand.NewSource(1))
	heard := map[int]int{}
	for range 2000 {
		p := settings()
		p.Interval = []int{4, 5, 16, 16384, 4 + random.Intn(16381)}[random.Intn(5)]
		p.Window = []int{4, p.Interval, 4 + random.Intn(p.Interval-3)}[random.Intn(3)]
		begin := []int{0, 1, random.Intn(api.MaxTime), maxTime - 1, maxTime}[random.Intn(5)]
		s := started(t, p, 9, begin)
		for range 50 {
			edge := begin + random.Intn(1000)*p.Interval*625 + random.Intn(2)*p.Window*625
			local := []int{edge - 1, edge, edge + 1, begin - 1, begin, random.Intn(api.MaxTime), moments[random.Intn(len(moments))].local}[random.Intn(7)]
			limited, want, listens := max(0, min(local, maxTime)), 0, false
			if k, r := (limited-begin)/(p.Interval*625), (limited-begin)%(p.Interval*625); limited >= begin && r < p.Window*625 {
				want, listens = 37+k%3, true
			}
			channel, ok := scanner.Channel(s, local)
			if channel != want || ok != listens {
				t.Fatalf("Channel(%v, %d) = %d, %t, want %d, %t", s, local, channel, ok, want, listens)
			}
			heard[channel]++
		}
	}
	for _, channel := range []int{0, 37, 38, 39} {
		if heard[channel] < 5000 {
			t.Errorf("the channel was %d only %d times", channel, heard[channel])
		}
	}
}

func TestP22_2AScannerThatIsOffDoesNotListen(t *testing.T) {
	for _, s := range []api.Scanner{{}, scanner.Stop(started(t, settings(), 9, 0))} {
		for _, c := range moments {
			if channel, listens := scanner.Channel(s, c.local); channel != 0 || listens {
				t.Errorf("Channel(%v, %d) = %d, %t", s, c.local, channel, listens)
			}
		}
	}
}

func TestP22_3HearExample(t *testing.T) {
	s := started(t, settings(), 9, 0)
	pdu := plain(api.AdvScannable, A)
	want := s
	want.Wait, want.Count = A, 0
	s, reports, sent := scanner.Hear(s, pdu, 37, 1500)
	if !same(s, want) || !same(reports, []api.Report{report(1500, pdu, -1)}) || !same(sent, []api.Send{{Channel: 37, Time: 1650, PDU: api.AdvPDU{Kind: api.AdvScanRequest, Sender: O, Target: A}}}) {
		t.Fatalf("Hear = %v, %v, %v", s, reports, sent)
	}
	answer := plain(api.AdvScanAnswer, A)
	want.Wait, want.Count, want.Wins, want.Seed = api.Address{}, 1, 1, 0x88a3b3bb205a879e
	s, reports, sent = scanner.Hear(s, answer, 37, 2100)
	if !same(s, want) || !same(reports, []api.Report{report(2100, answer, -1)}) || len(sent) != 0 {
		t.Fatalf("Hear of the answer = %v, %v, %v", s, reports, sent)
	}
	want.Wait, want.Count = A, 0
	s, reports, sent = scanner.Hear(s, pdu, 38, 3000)
	if !same(s, want) || len(reports) != 1 || len(sent) != 1 || sent[0].Channel != 38 || sent[0].Time != 3150 {
		t.Fatalf("Hear after the answer = %v, %v, %v", s, reports, sent)
	}
}

func TestP22_3OnlyWhatIsForTheScannerIsHeard(t *testing.T) {
	directed := func(sender, target api.Address) api.AdvPDU {
		return api.AdvPDU{Kind: api.AdvDirected, Sender: sender, Target: target}
	}
	long, targeted, params := plain(api.AdvPlain, A), plain(api.AdvScannable, A), plain(api.AdvConnectable, A)
	long.Data, targeted.Target, params.Conn = make([]byte, 32), O, conn
	for _, c := range []struct {
		comment string
		p       api.AdvPDU
		want    bool
	}{
		{"connectable", plain(api.AdvConnectable, B), true}, {"plain", plain(api.AdvPlain, B), true}, {"scannable", plain(api.AdvScannable, B), true}, {"without data", api.AdvPDU{Kind: api.AdvPlain, Sender: D}, true}, {"directed to the scanner", directed(B, O), true}, {"from the scanner's own address", plain(api.AdvPlain, O), true},
		{"directed to another device", directed(B, A), false}, {"directed to the sender", directed(B, B), false}, {"from the scanner to another device", directed(O, B), false}, {"directed to an address with the same number", directed(B, api.Address{Kind: api.AddrAnonymous, Bits: O.Bits}), false},
		{"the answer that is awaited", plain(api.AdvScanAnswer, A), true}, {"the answer of another device", plain(api.AdvScanAnswer, B), false}, {"the answer of the scanner", plain(api.AdvScanAnswer, O), false}, {"an answer of no device", plain(api.AdvScanAnswer, api.Address{}), false},
		{"a scan request", api.AdvPDU{Kind: api.AdvScanRequest, Sender: A, Target: O}, false}, {"a connection request", api.AdvPDU{Kind: api.AdvConnect, Sender: A, Target: O, Conn: conn}, false}, {"kind 7", plain(7, A), false}, {"kind -1", plain(-1, A), false}, {"an unknown kind", plain(otherKind, A), false},
		{"too many data", long, false}, {"a target that is not wanted", targeted, false}, {"parameters that are not wanted", params, false}, {"an invalid sender", plain(api.AdvScannable, bad), false}, {"no sender", plain(api.AdvPlain, api.Address{}), false}, {"no PDU", api.AdvPDU{}, false}, {"directed with data", api.AdvPDU{Kind: api.AdvDirected, Sender: B, Target: O, Data: []byte{0}}, false}, {"directed without a target", directed(B, api.Address{}), false},
	} {
		s := waiting(t, started(t, settings(), 9, 0), A)
		got, reports, sent := scanner.Hear(s, c.p, 39, 1500)
		if len(sent) != 0 || len(reports) == 1 != c.want || !c.want && !same(got, s) {
			t.Errorf("%s: Hear = %v, %v, %v", c.comment, got, reports, sent)
		}
		if c.want && !same(reports[0], report(1500, c.p, -1)) {
			t.Errorf("%s: the report is %v", c.comment, reports[0])
		}
	}
	s := started(t, settings(), 9, 0)
	for _, sender := range []api.Address{{}, A, B, O} {
		if got, reports, sent := scanner.Hear(s, plain(api.AdvScanAnswer, sender), 37, 1500); !same(got, s) || len(reports) != 0 || len(sent) != 0 {
			t.Errorf("Hear of an answer of %v without a request = %v, %v, %v", sender, got, reports, sent)
		}
	}
}

func TestP22_3ChannelsAndTimes(t *testing.T) {
	s := started(t, settings(), 9, 0)
	for _, channel := range someChannels {
		advertising := channel == 37 || channel == 38 || channel == 39
		for _, c := range moments {
			got, reports, sent := scanner.Hear(s, plain(api.AdvScannable, A), channel, c.local)
			if !advertising {
				if !same(got, s) || len(reports) != 0 || len(sent) != 0 {
					t.Errorf("Hear on channel %d at %d = %v, %v, %v", channel, c.local, got, reports, sent)
				}
				continue
			}
			if len(reports) != 1 || reports[0].Time != c.limited || len(sent) != 1 || sent[0].Channel != channel || sent[0].Time != c.limited+150 {
				t.Errorf("Hear on channel %d at %d = %v, %v, %v", channel, c.local, got, reports, sent)
			}
		}
	}
}

func TestP22_3AScannerThatIsOffHearsNothing(t *testing.T) {
	for _, s := range []api.Scanner{{}, scanner.Stop(started(t, settings(), 9, 0)), scanner.Stop(waiting(t, started(t, settings(), 9, 0), A))} {
		for _, kind := range []int{api.AdvScannable, api.AdvPlain, api.AdvScanAnswer} {
			for _, sender := range []api.Address{A, {}} {
				if got, reports, sent := scanner.Hear(s, plain(kind, sender), 37, 1500); !same(got, s) || len(reports) != 0 || len(sent) != 0 {
					t.Errorf("Hear(%v) = %v, %v, %v", s, got, reports, sent)
				}
			}
		}
	}
}

func TestP22_3Filter(t *testing.T) {
	ids := []api.Identity{{Address: B, IRK: 9}, {Address: C, IRK: 8}, {Address: A, IRK: 9}}
	for _, c := range []struct {
		comment string
		policy  int
		accept  []api.Address
		sender  api.Address
		found   int
		want    bool
	}{
		{"everybody", api.PolicyAll, nil, D, -1, true}, {"an identity", api.PolicyAll, nil, R, 0, true}, {"the second identity", api.PolicyAll, nil, T, 1, true}, {"the address of the second identity", api.PolicyAll, nil, C, 1, true}, {"the address of the third one", api.PolicyAll, nil, A, 2, true},
		{"the empty list", api.PolicyScan, nil, D, -1, false}, {"on the list", api.PolicyScan, []api.Address{A, D}, D, -1, true}, {"not on the list", api.PolicyScan, []api.Address{A, C}, D, -1, false}, {"by the identity", api.PolicyScan, []api.Address{A, B}, S, 0, true}, {"another identity", api.PolicyScan, []api.Address{B}, T, 1, false}, {"an identity that is not the first one found", api.PolicyScan, []api.Address{A}, S, 0, false}, {"a resolvable address on the list", api.PolicyScan, []api.Address{S}, S, 0, true},
	} {
		p := settings()
		p.Policy, p.Accept, p.Identities = c.policy, c.accept, ids
		s := started(t, p, 9, 0)
		pdu := plain(api.AdvConnectable, c.sender)
		want := s
		var reports []api.Report
		if c.want {
			want.Wait, want.Count = c.sender, 0
			reports = []api.Report{report(1500, pdu, c.found)}
		}
		got, gotReports, sent := scanner.Hear(s, pdu, 37, 1500)
		if !same(got, want) || !same(gotReports, reports) || len(sent) == 1 != c.want {
			t.Errorf("%s: Hear = %v, %v, %v", c.comment, got, gotReports, sent)
		}
	}
}

func TestP22_3Unique(t *testing.T) {
	mark := func(a api.Address) api.Address { return api.Address{Kind: a.Kind + 16, Bits: a.Bits} }
	p := settings()
	p.Unique, p.Identities = true, []api.Identity{{Address: B, IRK: 9}, {Address: C, IRK: 8}}
	s := started(t, p, 9, 0)
	for _, c := range []struct {
		kind   int
		sender api.Address
		want   bool
		seen   []api.Address
	}{
		{api.AdvConnectable, A, true, []api.Address{A}}, {api.AdvConnectable, A, false, []api.Address{A}}, {api.AdvPlain, A, false, []api.Address{A}}, {api.AdvScanAnswer, A, true, []api.Address{A, mark(A)}},
		{api.AdvScannable, R, true, []api.Address{A, mark(A), B}}, {api.AdvScannable, S, false, []api.Address{A, mark(A), B}}, {api.AdvPlain, B, false, []api.Address{A, mark(A), B}}, {api.AdvScanAnswer, R, true, []api.Address{A, mark(A), B, mark(B)}}, {api.AdvScannable, S, false, []api.Address{A, mark(A), B, mark(B)}}, {api.AdvScanAnswer, S, false, []api.Address{A, mark(A), B, mark(B)}},
		{api.AdvDirected, T, true, []api.Address{A, mark(A), B, mark(B), C}}, {api.AdvConnectable, C, false, []api.Address{A, mark(A), B, mark(B), C}}, {api.AdvPlain, D, true, []api.Address{A, mark(A), B, mark(B), C, D}}, {api.AdvScanAnswer, C, true, []api.Address{A, mark(A), B, mark(B), C, D, mark(C)}}, {api.AdvDirected, T, false, []api.Address{A, mark(A), B, mark(B), C, D, mark(C)}},
	} {
		pdu := plain(c.kind, c.sender)
		if c.kind == api.AdvDirected {
			pdu = api.AdvPDU{Kind: c.kind, Sender: c.sender, Target: O}
		}
		var reports []api.Report
		s, reports, _ = scanner.Hear(s, pdu, 37, 1500)
		if len(reports) == 1 != c.want || !slices.Equal(s.Seen, c.seen) {
			t.Fatalf("Hear of %v: %v, and seen are %v, want %v", pdu, reports, s.Seen, c.seen)
		}
		if c.want && !same(reports[0], report(1500, pdu, privacy.Find(p.Identities, c.sender))) {
			t.Errorf("the report is %v", reports[0])
		}
	}
}

func TestP22_3UniqueForgetsTheFirstEntry(t *testing.T) {
	p := settings()
	p.Unique, p.Active = true, false
	s, seen := started(t, p, 9, 0), many(api.MaxList)
	hear := func(a api.Address) bool {
		var reports []api.Report
		s, reports, _ = scanner.Hear(s, plain(api.AdvPlain, a), 37, 1500)
		return len(reports) == 1
	}
	for i, a := range seen {
		if !hear(a) || hear(a) || !slices.Equal(s.Seen, seen[:i+1]) {
			t.Fatalf("after %d addresses, seen are %v", i+1, s.Seen)
		}
	}
	for _, a := range seen {
		if hear(a) {
			t.Errorf("%v is reported twice", a)
		}
	}
	if !hear(A) || hear(A) || hear(seen[1]) || !slices.Equal(s.Seen, append(slices.Clone(seen[1:]), A)) {
		t.Fatalf("after one address more, seen are %v", s.Seen)
	}
	if !hear(seen[0]) || !hear(seen[1]) || hear(seen[3]) || hear(seen[0]) || !slices.Equal(s.Seen, append(slices.Clone(seen[3:]), A, seen[0], seen[1])) {
		t.Errorf("after the forgotten ones, seen are %v", s.Seen)
	}
}

func TestP22_3AddressesAreNotRememberedWithoutUnique(t *testing.T) {
	s := started(t, settings(), 9, 0)
	for i := range 100 {
		var reports []api.Report
		s, reports, _ = scanner.Hear(s, plain(api.AdvPlain, many(100)[i/2]), 37, 1500)
		if len(reports) != 1 || len(s.Seen) != 0 {
			t.Fatalf("Hear = %v, %v", s, reports)
		}
	}
}

func TestP22_3Requests(t *testing.T) {
	passive, strict := settings(), settings()
	passive.Active = false
	strict.Policy, strict.Accept = api.PolicyScan, []api.Address{B}
	unique := settings()
	unique.Unique = true
	seen, _, _ := scanner.Hear(started(t, unique, 9, 0), plain(api.AdvPlain, A), 37, 1000)
	for _, c := range []struct {
		comment string
		s       api.Scanner
		p       api.AdvPDU
		want    bool
	}{
		{"scannable", started(t, settings(), 9, 0), plain(api.AdvScannable, A), true}, {"connectable", started(t, settings(), 9, 0), plain(api.AdvConnectable, A), true}, {"plain", started(t, settings(), 9, 0), plain(api.AdvPlain, A), false}, {"directed", started(t, settings(), 9, 0), api.AdvPDU{Kind: api.AdvDirected, Sender: A, Target: O}, false},
		{"passive", started(t, passive, 9, 0), plain(api.AdvScannable, A), false}, {"waiting", waiting(t, started(t, settings(), 9, 0), B), plain(api.AdvScannable, A), false}, {"waiting for the same one", waiting(t, started(t, settings(), 9, 0), A), plain(api.AdvScannable, A), false}, {"not on the list", started(t, strict, 9, 0), plain(api.AdvScannable, A), false}, {"on the list", started(t, strict, 9, 0), plain(api.AdvScannable, B), true},
		{"not reported, because it was seen", seen, plain(api.AdvScannable, A), true}, {"the answer that was awaited", waiting(t, started(t, settings(), 9, 0), A), plain(api.AdvScanAnswer, A), false},
	} {
		got, _, sent := scanner.Hear(c.s, c.p, 38, 1500)
		var want []api.Send
		if c.want {
			want = []api.Send{{Channel: 38, Time: 1650, PDU: api.AdvPDU{Kind: api.AdvScanRequest, Sender: O, Target: c.p.Sender}}}
		}
		if !same(sent, want) || c.want && (got.Wait != c.p.Sender || got.Count != 0) {
			t.Errorf("%s: Hear = %v, %v", c.comment, got, sent)
		}
		if !c.want && c.p.Kind != api.AdvScanAnswer && (got.Count != c.s.Count || got.Wait != c.s.Wait) {
			t.Errorf("%s: the back-off became %v", c.comment, got)
		}
	}
}

// backOffs are the back-offs of scanners with the seeds 9 and 0 whose requests succeed (A) or fail (M), which were computed apart from the program: the upper limit, the consecutive failures and successes, and the counts for the two seeds.
var backOffs = []struct {
	outcome            byte
	upper, fails, wins int
	count9, count0     int
}{
	{'M', 1, 1, 0, 1, 1}, {'M', 2, 0, 0, 1, 1}, {'M', 2, 1, 0, 1, 1}, {'M', 4, 0, 0, 2, 2}, {'M', 4, 1, 0, 4, 4}, {'M', 8, 0, 0, 8, 3}, {'M', 8, 1, 0, 4, 6}, {'M', 16, 0, 0, 15, 7}, {'M', 16, 1, 0, 11, 12}, {'M', 32, 0, 0, 26, 32}, {'M', 32, 1, 0, 2, 16}, {'M', 64, 0, 0, 42, 61}, {'M', 64, 1, 0, 28, 32}, {'M', 128, 0, 0, 23, 6}, {'M', 128, 1, 0, 95, 94}, {'M', 256, 0, 0, 85, 167}, {'M', 256, 1, 0, 209, 156}, {'M', 256, 0, 0, 38, 190}, {'M', 256, 1, 0, 63, 15},
	{'A', 256, 0, 1, 31, 9}, {'A', 128, 0, 0, 51, 62}, {'A', 128, 0, 1, 62, 3}, {'A', 64, 0, 0, 4, 58}, {'A', 64, 0, 1, 44, 12}, {'A', 32, 0, 0, 1, 6}, {'A', 32, 0, 1, 5, 15}, {'A', 16, 0, 0, 6, 7}, {'A', 16, 0, 1, 10, 15}, {'A', 8, 0, 0, 8, 7}, {'A', 8, 0, 1, 1, 7}, {'A', 4, 0, 0, 2, 3}, {'A', 4, 0, 1, 4, 4}, {'A', 2, 0, 0, 1, 1}, {'A', 2, 0, 1, 2, 2}, {'A', 1, 0, 0, 1, 1}, {'A', 1, 0, 1, 1, 1}, {'A', 1, 0, 0, 1, 1}, {'A', 1, 0, 1, 1, 1},
	{'M', 1, 1, 0, 1, 1}, {'A', 1, 0, 1, 1, 1}, {'M', 1, 1, 0, 1, 1}, {'A', 1, 0, 1, 1, 1}, {'M', 1, 1, 0, 1, 1}, {'M', 2, 0, 0, 1, 1}, {'A', 2, 0, 1, 1, 2}, {'M', 2, 1, 0, 1, 2}, {'M', 4, 0, 0, 4, 3}, {'M', 4, 1, 0, 3, 3}, {'A', 4, 0, 1, 4, 4}, {'A', 2, 0, 0, 2, 2}, {'M', 2, 1, 0, 1, 2}, {'M', 4, 0, 0, 4, 3}, {'A', 4, 0, 1, 3, 1}, {'M', 4, 1, 0, 3, 4}, {'A', 4, 0, 1, 4, 4}, {'A', 2, 0, 0, 2, 1},
}

// The seeds that the back-offs above begin and end with.
var backOffSeeds = []struct{ first, last uint64 }{{9, 0x7aa10796f231ca09}, {0, 0xa24b95e4e0abf670}}

func TestP22_3And4BackOffs(t *testing.T) {
	for i, seeds := range backOffSeeds {
		s := started(t, settings(), seeds.first, 0)
		for n, c := range backOffs {
			want := s
			want.Upper, want.Fails, want.Wins, want.Count = c.upper, c.fails, c.wins, []int{c.count9, c.count0}[i]
			s = ask(t, s, A)
			if c.outcome == 'M' {
				s = scanner.Miss(s)
			} else {
				s, _, _ = scanner.Hear(s, plain(api.AdvScanAnswer, A), 38, 3000)
			}
			want.Seed = s.Seed
			if !same(s, want) {
				t.Fatalf("after %d requests the scanner with the seed %d is %v, want %v", n+1, seeds.first, s, want)
			}
		}
		if s.Seed != seeds.last {
			t.Errorf("the last seed is %x, want %x", s.Seed, seeds.last)
		}
	}
}

// ask returns a scanner that sent a request to an advertiser, which was due when Count PDUs of it had been heard.
func ask(t *testing.T, s api.Scanner, a api.Address) api.Scanner {
	t.Helper()
	for left := s.Count; left > 0; left-- {
		if s.Count != left || s.Wait != (api.Address{}) {
			t.Fatalf("the back-off of %v is not %d", s, left)
		}
		var sent []api.Send
		s, _, _ = scanner.Hear(s, plain(api.AdvPlain, a), 38, 2000)
		s, _, sent = scanner.Hear(s, plain(api.AdvScannable, a), 38, 2000)
		if len(sent) == 1 != (left == 1) {
			t.Fatalf("with the back-off %d: %v", left, sent)
		}
	}
	if s.Count != 0 || s.Wait != a {
		t.Fatalf("%v does not wait for %v", s, a)
	}
	return s
}

func TestP22_3To6FollowTheDefinitions(t *testing.T) {
	random := rand.New(rand.NewSource(3))
	told, asked, answered, missed := 0, 0, 0, 0
	for range 300 {
		s := someScanner(t, random)
		for range 300 {
			p, channel, local := somePDU(random, s.Wait), 37+random.Intn(3), random.Intn(second)
			if random.Intn(20) == 0 {
				channel = 36 + 4*random.Intn(2)
			}
			before := fmt.Sprint(s, p)
			var want, got api.Scanner
			switch n := random.Intn(200); {
			case n == 0:
				want, got = stop(s), scanner.Stop(s)
			case n < 20:
				want, got = miss(s), scanner.Miss(s)
				if s.Wait != (api.Address{}) {
					missed++
				}
			default:
				var reports, gotReports []api.Report
				var sent, gotSent []api.Send
				want, reports, sent = hear(s, p, channel, local)
				got, gotReports, gotSent = scanner.Hear(s, p, channel, local)
				if !same(gotReports, reports) || !same(gotSent, sent) {
					t.Fatalf("Hear(%v, %v, %d, %d) = %v, %v, want %v, %v", s, p, channel, local, gotReports, gotSent, reports, sent)
				}
				told, asked = told+len(reports), asked+len(sent)
				if got.Seed != s.Seed {
					answered++
				}
			}
			if !same(got, want) {
				t.Fatalf("after %v, %v the scanner is %v, want %v", s, p, got, want)
			}
			if fmt.Sprint(s, p) != before {
				t.Fatalf("%s became %v, %v", before, s, p)
			}
			s = got
			if !s.On && random.Intn(3) == 0 {
				break
			}
		}
	}
	if told < 5000 || asked < 1000 || answered < 1000 || missed < 300 {
		t.Errorf("only %d reports, %d requests, %d answers and %d misses", told, asked, answered, missed)
	}
}

// hear follows the definition of Hear.
func hear(s api.Scanner, p api.AdvPDU, channel, local int) (api.Scanner, []api.Report, []api.Send) {
	own := p.Kind == api.AdvConnectable || p.Kind == api.AdvPlain || p.Kind == api.AdvScannable || p.Kind == api.AdvDirected && p.Target == s.Params.Own || p.Kind == api.AdvScanAnswer && p.Sender == s.Wait
	if !s.On || channel < 37 || channel > 39 || advpdu.Check(p) != api.OK || !own {
		return s, nil, nil
	}
	if p.Kind == api.AdvScanAnswer {
		s.Wait, s.Fails, s.Wins = api.Address{}, 0, s.Wins+1
		if s.Wins == 2 {
			s.Upper, s.Wins = max(1, s.Upper/2), 0
		}
		s = backOff(s)
	}
	passes := s.Params.Policy == api.PolicyAll || accept.Has(s.Params.Accept, s.Params.Identities, p.Sender)
	var reports []api.Report
	if entry := entry(s, p); passes && !(s.Params.Unique && slices.Contains(s.Seen, entry)) {
		reports = append(reports, report(local, p, privacy.Find(s.Params.Identities, p.Sender)))
		if s.Params.Unique {
			s.Seen = append(slices.Clone(s.Seen), entry)
			s.Seen = s.Seen[max(0, len(s.Seen)-64):]
		}
	}
	var sent []api.Send
	if scannable := p.Kind == api.AdvConnectable || p.Kind == api.AdvScannable; s.Params.Active && s.Wait == (api.Address{}) && scannable && passes {
		s.Count--
		if s.Count == 0 {
			s.Wait = p.Sender
			sent = append(sent, api.Send{Channel: channel, Time: local + 150, PDU: api.AdvPDU{Kind: api.AdvScanRequest, Sender: s.Params.Own, Target: p.Sender}})
		}
	}
	return s, reports, sent
}

// name follows the definition of the name of an address.
func name(s api.Scanner, a api.Address) api.Address {
	if i := privacy.Find(s.Params.Identities, a); i >= 0 {
		return s.Params.Identities[i].Address
	}
	return a
}

// entry follows the definition of the entry of a PDU.
func entry(s api.Scanner, p api.AdvPDU) api.Address {
	a := name(s, p.Sender)
	if p.Kind == api.AdvScanAnswer {
		a.Kind += 16
	}
	return a
}

// miss follows the definition of Miss.
func miss(s api.Scanner) api.Scanner {
	if !s.On || s.Wait == (api.Address{}) {
		return s
	}
	s.Wait, s.Wins, s.Fails = api.Address{}, 0, s.Fails+1
	if s.Fails == 2 {
		s.Upper, s.Fails = min(256, 2*s.Upper), 0
	}
	return backOff(s)
}

// backOff follows the definition of a new back-off.
func backOff(s api.Scanner) api.Scanner {
	s.Seed = uint64(mac.Derive(api.Key(s.Seed), "backoff"))
	s.Count = 1 + int(s.Seed%uint64(s.Upper))
	return s
}

// stop follows the definition of Stop.
func stop(s api.Scanner) api.Scanner {
	s.On, s.Wait = false, api.Address{}
	return s
}

func TestP22_4Miss(t *testing.T) {
	s := started(t, settings(), 9, 0)
	heard, _, _ := scanner.Hear(s, plain(api.AdvPlain, A), 37, 1500)
	for _, s := range []api.Scanner{{}, s, heard, scanner.Stop(s), scanner.Stop(waiting(t, s, A)), scanner.Miss(waiting(t, s, A))} {
		if got := scanner.Miss(s); !same(got, s) {
			t.Errorf("Miss(%v) = %v", s, got)
		}
	}
	want := s
	want.Fails, want.Seed = 1, 0x88a3b3bb205a879e
	if got := scanner.Miss(waiting(t, s, A)); !same(got, want) {
		t.Errorf("Miss = %v, want %v", got, want)
	}
}

func TestP22_5Initiate(t *testing.T) {
	ids := []api.Identity{{Address: C, IRK: 8}, {Address: B, IRK: 9}, {Address: A, IRK: 9}}
	wrongConn, long := conn, plain(api.AdvConnectable, A)
	wrongConn.Hop, long.Data = 17, make([]byte, 32)
	directed := func(sender, target api.Address) api.AdvPDU {
		return api.AdvPDU{Kind: api.AdvDirected, Sender: sender, Target: target}
	}
	for _, c := range []struct {
		comment string
		own, to api.Address
		ids     []api.Identity
		conn    api.ConnParams
		p       api.AdvPDU
		want    bool
	}{
		{"connectable", O, A, nil, conn, plain(api.AdvConnectable, A), true}, {"directed", O, A, nil, conn, directed(A, O), true}, {"directed to another device", O, A, nil, conn, directed(A, B), false}, {"directed to the sender", O, A, nil, conn, directed(A, A), false}, {"scannable", O, A, nil, conn, plain(api.AdvScannable, A), false}, {"plain", O, A, nil, conn, plain(api.AdvPlain, A), false}, {"an answer", O, A, nil, conn, plain(api.AdvScanAnswer, A), false}, {"a scan request", O, A, nil, conn, api.AdvPDU{Kind: api.AdvScanRequest, Sender: A, Target: O}, false}, {"a connection request", O, A, nil, conn, api.AdvPDU{Kind: api.AdvConnect, Sender: A, Target: O, Conn: conn}, false},
		{"another sender", O, A, nil, conn, plain(api.AdvConnectable, B), false}, {"the second identity", O, B, ids, conn, plain(api.AdvConnectable, S), true}, {"directed by an identity", O, B, ids, conn, directed(R, O), true}, {"directed by an identity to another device", O, B, ids, conn, directed(R, B), false}, {"the first identity", O, C, ids, conn, plain(api.AdvConnectable, T), true}, {"another identity", O, B, ids, conn, plain(api.AdvConnectable, T), false}, {"a later identity with the key", O, A, ids, conn, plain(api.AdvConnectable, S), false}, {"no identities", O, B, nil, conn, plain(api.AdvConnectable, S), false}, {"the address itself with identities", O, A, ids, conn, plain(api.AdvConnectable, A), true}, {"a resolvable address itself", O, S, ids, conn, plain(api.AdvConnectable, S), true}, {"another resolvable address of the identity", O, R, ids, conn, plain(api.AdvConnectable, S), false},
		{"an identity with an invalid address", O, bad, []api.Identity{{Address: bad, IRK: 9}}, conn, plain(api.AdvConnectable, S), true}, {"an identity without an address", O, api.Address{}, []api.Identity{{IRK: 9}}, conn, plain(api.AdvConnectable, S), true}, {"no address", O, api.Address{}, nil, conn, plain(api.AdvConnectable, S), false},
		{"an invalid sender", O, bad, nil, conn, plain(api.AdvConnectable, bad), false}, {"no sender", O, api.Address{}, nil, conn, plain(api.AdvConnectable, api.Address{}), false}, {"too many data", O, A, nil, conn, long, false}, {"directed with data", O, A, nil, conn, api.AdvPDU{Kind: api.AdvDirected, Sender: A, Target: O, Data: []byte{1}}, false}, {"an unknown kind", O, A, nil, conn, plain(1<<32, A), false}, {"kind -1", O, A, nil, conn, plain(-1, A), false},
		{"no own address", api.Address{}, A, nil, conn, plain(api.AdvConnectable, A), false}, {"an invalid own address", bad, A, nil, conn, plain(api.AdvConnectable, A), false}, {"wrong parameters", O, A, nil, wrongConn, plain(api.AdvConnectable, A), false}, {"no parameters", O, A, nil, api.ConnParams{}, plain(api.AdvConnectable, A), false}, {"a resolvable own address", R, A, nil, conn, plain(api.AdvConnectable, A), true}, {"the own address as sender", A, A, nil, conn, plain(api.AdvConnectable, A), true},
	} {
		for _, channel := range someChannels {
			want, ok := api.Send{}, c.want && channel >= 37 && channel <= 39
			if ok {
				want = api.Send{Channel: channel, Time: 1650, PDU: api.AdvPDU{Kind: api.AdvConnect, Sender: c.own, Target: c.p.Sender, Conn: c.conn}}
			}
			if got, gotOK := scanner.Initiate(c.own, c.to, c.ids, c.conn, c.p, channel, 1500); !same(got, want) || gotOK != ok {
				t.Errorf("%s: Initiate on channel %d = %v, %t, want %v, %t", c.comment, channel, got, gotOK, want, ok)
			}
		}
	}
	for _, c := range moments {
		if got, ok := scanner.Initiate(O, A, nil, conn, plain(api.AdvConnectable, A), 39, c.local); !ok || got.Time != c.limited+150 {
			t.Errorf("Initiate at %d = %v, %t", c.local, got, ok)
		}
	}
}

func TestP22_5InitiateFollowsTheDefinition(t *testing.T) {
	random := rand.New(rand.NewSource(5))
	sent := 0
	for range 100000 {
		own, to, ids, c, channel, local := O, someAddress(random), someIdentities(random), conn, 37+random.Intn(3), random.Intn(second)
		p := somePDU(random, A)
		switch random.Intn(10) {
		case 0:
			own = someAddress(random)
		case 1:
			c.PPM = random.Intn(1000)
		case 2:
			channel = random.Intn(50)
		}
		request := api.AdvPDU{Kind: api.AdvConnect, Sender: own, Target: p.Sender, Conn: c}
		i := privacy.Find(ids, p.Sender)
		ok := advpdu.Check(p) == api.OK && advpdu.Connectable(p.Kind) && channel >= 37 && channel <= 39 && (p.Sender == to || i >= 0 && ids[i].Address == to) && (p.Kind != api.AdvDirected || p.Target == own) && advpdu.Check(request) == api.OK
		want := api.Send{}
		if ok {
			want = api.Send{Channel: channel, Time: local + 150, PDU: request}
			sent++
		}
		if got, gotOK := scanner.Initiate(own, to, ids, c, p, channel, local); !same(got, want) || gotOK != ok {
			t.Fatalf("Initiate(%v, %v, %v, %v, %v, %d, %d) = %v, %t, want %v, %t", own, to, ids, c, p, channel, local, got, gotOK, want, ok)
		}
	}
	if sent < 1000 {
		t.Errorf("only %d requests", sent)
	}
}

func TestP22_6Stop(t *testing.T) {
	s := started(t, settings(), 9, 5000)
	heard, _, _ := scanner.Hear(s, plain(api.AdvPlain, A), 37, 1500)
	for _, s := range []api.Scanner{{}, s, heard, waiting(t, s, A), scanner.Miss(waiting(t, s, A))} {
		want := s
		want.On, want.Wait = false, api.Address{}
		got := scanner.Stop(s)
		if !same(got, want) || !same(scanner.Stop(got), want) {
			t.Errorf("Stop(%v) = %v, want %v", s, got, want)
		}
	}
}

func TestP22_7Finds(t *testing.T) {
	random := rand.New(rand.NewSource(7))
	heard, directed := map[int]int{}, 0
	for range 60 {
		p := settings()
		p.Interval = 4 + random.Intn(200)
		p.Window, p.Policy, p.Active = p.Interval, api.PolicyAll, random.Intn(2) == 0
		s := started(t, p, random.Uint64(), random.Intn(second))
		a := someAdvertiser(t, random, s.Start)
		for range 100 {
			var sent []api.Send
			a, sent = advertiser.Fire(a, a.Next)
			for _, send := range sent {
				channel, listens := scanner.Channel(s, send.Time)
				if !listens {
					t.Fatalf("%v does not listen at %d", s, send.Time)
				}
				if channel != send.Channel {
					continue
				}
				var reports []api.Report
				s, reports, _ = scanner.Hear(s, send.PDU, channel, send.Time+300)
				if send.PDU.Kind == api.AdvDirected && send.PDU.Target != O {
					directed++
					if len(reports) != 0 {
						t.Fatalf("%v, which is for another device, is reported", send.PDU)
					}
					continue
				}
				heard[channel]++
				if !same(reports, []api.Report{report(send.Time+300, send.PDU, -1)}) {
					t.Fatalf("%v is reported by %v", send.PDU, reports)
				}
			}
		}
	}
	if heard[37] < 300 || heard[38] < 300 || heard[39] < 300 || directed < 100 {
		t.Errorf("heard were %v and %d that are for others", heard, directed)
	}
}

func TestP22_7AScannerListensAlways(t *testing.T) {
	for _, interval := range []int{4, 5, 16, 16384} {
		p := settings()
		p.Interval, p.Window = interval, interval
		s := started(t, p, 9, 777)
		for k := range 100 {
			for _, at := range []int{0, 1, interval*625/2 + 1, interval*625 - 1} {
				local := 777 + k*interval*625 + at
				if channel, listens := scanner.Channel(s, local); !listens || channel != 37+k%3 {
					t.Fatalf("with the interval %d at %d: %d, %t", interval, local, channel, listens)
				}
			}
		}
	}
}

func TestP22_8Unique(t *testing.T) {
	random := rand.New(rand.NewSource(8))
	// 32 devices have at most 64 entries, and some of them use many addresses.
	devices := persons(32)
	found := 0
	for range 20 {
		p := settings()
		p.Unique, p.Identities = true, devices
		s := started(t, p, random.Uint64(), 0)
		type note struct {
			name   api.Address
			answer bool
		}
		reported := map[note]bool{}
		for range 2000 {
			device := devices[random.Intn(len(devices))]
			sender := device.Address
			if random.Intn(2) == 0 {
				sender = made(device.IRK, uint32(1+random.Intn(1000)))
			}
			pdu := plain([]int{api.AdvConnectable, api.AdvPlain, api.AdvScannable}[random.Intn(3)], sender)
			if s.Wait != (api.Address{}) {
				pdu = plain(api.AdvScanAnswer, s.Wait)
			}
			var reports []api.Report
			s, reports, _ = scanner.Hear(s, pdu, 37, 1500)
			for _, r := range reports {
				n := note{name(s, r.Sender), r.Kind == api.AdvScanAnswer}
				if reported[n] {
					t.Fatalf("%v is reported twice", n)
				}
				reported[n] = true
				found++
			}
		}
	}
	if found < 20*60 {
		t.Errorf("only %d reports", found)
	}
}

func TestP22_9BackOff(t *testing.T) {
	random := rand.New(rand.NewSource(9))
	uppers := map[int]bool{}
	for range 200 {
		s := someScanner(t, random)
		failures := random.Intn(101)
		for range 500 {
			was, sent := s, []api.Send(nil)
			switch p := somePDU(random, s.Wait); {
			case s.Wait != (api.Address{}) && random.Intn(100) < failures:
				s = scanner.Miss(s)
			case s.Wait != (api.Address{}):
				s, _, sent = scanner.Hear(s, plain(api.AdvScanAnswer, s.Wait), 37, 1500)
			default:
				s, _, sent = scanner.Hear(s, p, 37, 1500)
				if len(sent) != 0 && (!s.Params.Active || !advpdu.Scannable(p.Kind) || was.Wait != (api.Address{}) || sent[0].PDU.Kind != api.AdvScanRequest || sent[0].PDU.Target != p.Sender) {
					t.Fatalf("%v sends %v about %v", was, sent, p)
				}
			}
			uppers[s.Upper] = true
			if s.Upper < 1 || s.Upper > 256 || s.Upper&(s.Upper-1) != 0 || s.Count < 0 || s.Count > s.Upper || (s.Count == 0) != (s.Wait != api.Address{}) || len(sent) > 1 || len(sent) == 1 && advpdu.Check(sent[0].PDU) != api.OK {
				t.Fatalf("after %v the scanner is %v, and it sends %v", was, s, sent)
			}
		}
	}
	if len(uppers) != 9 {
		t.Errorf("the limits were %v", uppers)
	}
}

func TestR5ResultsAreNewMemory(t *testing.T) {
	p := settings()
	p.Unique, p.Accept, p.Identities = true, append(make([]api.Address, 0, 70), A, B), append(make([]api.Identity, 0, 70), api.Identity{Address: B, IRK: 9})
	full := append(make([]api.Address, 0, 70), many(api.MaxList)...)
	hear := func(p api.AdvPDU, channel int) func(s api.Scanner) (api.Scanner, []api.Report) {
		return func(s api.Scanner) (api.Scanner, []api.Report) {
			s, reports, _ := scanner.Hear(s, p, channel, 1500)
			return s, reports
		}
	}
	pdu := plain(api.AdvScannable, A)
	pdu.Data = append(make([]byte, 0, 40), pdu.Data...)
	answer := pdu
	answer.Kind = api.AdvScanAnswer
	for _, seen := range [][]api.Address{nil, append(make([]api.Address, 0, 8), B, C), full[:63], full} {
		s := api.Scanner{Params: p, On: true, Upper: 4, Count: 3, Seen: seen}
		wait := s
		wait.Wait, wait.Count = A, 0
		for _, c := range []struct {
			comment string
			s       api.Scanner
			do      func(s api.Scanner) (api.Scanner, []api.Report)
		}{
			{"started", s, func(s api.Scanner) (api.Scanner, []api.Report) { s, _ = scanner.Start(s.Params, 9, 0); return s, nil }},
			{"heard", s, hear(pdu, 37)}, {"heard while waiting", wait, hear(pdu, 37)}, {"answered", wait, hear(answer, 37)}, {"not heard", s, hear(pdu, 36)}, {"not awaited", s, hear(answer, 37)}, {"heard again", s, hear(plain(api.AdvPlain, B), 37)},
			{"missed", wait, func(s api.Scanner) (api.Scanner, []api.Report) { return scanner.Miss(s), nil }},
			{"not missed", s, func(s api.Scanner) (api.Scanner, []api.Report) { return scanner.Miss(s), nil }},
			{"stopped", wait, func(s api.Scanner) (api.Scanner, []api.Report) { return scanner.Stop(s), nil }},
		} {
			before := fmt.Sprint(whole(c.s), pdu.Data[:cap(pdu.Data)])
			got, reports := c.do(c.s)
			overwrite(got.Params.Accept, D)
			overwrite(got.Seen, bad)
			overwrite(got.Params.Identities, api.Identity{Address: D})
			for _, r := range reports {
				overwrite(r.Data, 99)
			}
			if slices.Contains(got.Params.Accept, bad) {
				t.Errorf("%s: the lists of the result share memory", c.comment)
			}
			if after := fmt.Sprint(whole(c.s), pdu.Data[:cap(pdu.Data)]); after != before {
				t.Errorf("%s: the arguments %s became %s", c.comment, before, after)
			}
		}
	}
}

// whole returns a scanner with the spare capacity of its lists.
func whole(s api.Scanner) api.Scanner {
	s.Params.Accept, s.Params.Identities, s.Seen = s.Params.Accept[:cap(s.Params.Accept)], s.Params.Identities[:cap(s.Params.Identities)], s.Seen[:cap(s.Seen)]
	return s
}

// overwrite replaces all elements of a list and of its spare capacity.
func overwrite[T any](l []T, by T) {
	l = l[:cap(l)]
	for i := range l {
		l[i] = by
	}
}

// settings returns valid settings of an active scanner.
func settings() api.ScanParams {
	return api.ScanParams{Interval: 16, Window: 8, Active: true, Policy: api.PolicyAll, Accept: []api.Address{D, B}, Own: O}
}

// started returns the scanner with settings that are valid.
func started(t *testing.T, p api.ScanParams, seed uint64, local int) api.Scanner {
	t.Helper()
	s, e := scanner.Start(p, seed, local)
	if e != api.OK {
		t.Fatalf("Start(%v, %d, %d): %v", p, seed, local, e)
	}
	return s
}

// waiting returns a scanner that waits for the answer of an advertiser.
func waiting(t *testing.T, s api.Scanner, a api.Address) api.Scanner {
	t.Helper()
	s, _, sent := scanner.Hear(s, plain(api.AdvScannable, a), 37, 1000)
	if len(sent) != 1 || s.Wait != a {
		t.Fatalf("%v does not wait for %v", s, a)
	}
	return s
}

// plain returns a PDU with data but without a target.
func plain(kind int, sender api.Address) api.AdvPDU {
	return api.AdvPDU{Kind: kind, Sender: sender, Data: []byte{2, 1, 6}}
}

// report is the report of a PDU whose sender belongs to the identity with an index.
func report(local int, p api.AdvPDU, identity int) api.Report {
	return api.Report{Time: local, Kind: p.Kind, Sender: p.Sender, Identity: identity, Data: p.Data}
}

// someAddress returns an address of a few, most of which are valid.
func someAddress(random *rand.Rand) api.Address {
	return []api.Address{A, B, C, D, R, S, T, O, bad, {}}[random.Intn(10)]
}

// someIdentities returns a few identities with such addresses.
func someIdentities(random *rand.Rand) []api.Identity {
	var l []api.Identity
	for range random.Intn(4) {
		l = append(l, api.Identity{Address: someAddress(random), IRK: []api.Key{0, 8, 9}[random.Intn(3)]})
	}
	return l
}

// someScanner returns a scanner with few addresses.
func someScanner(t *testing.T, random *rand.Rand) api.Scanner {
	t.Helper()
	p := settings()
	p.Active, p.Unique, p.Policy, p.Identities = random.Intn(5) > 0, random.Intn(2) == 0, random.Intn(2), someIdentities(random)
	p.Accept = nil
	for range random.Intn(8) {
		p.Accept = append(p.Accept, someAddress(random))
	}
	return started(t, p, random.Uint64(), 0)
}

// somePDU returns a PDU; most are advertising PDUs or the answer that is awaited.
func somePDU(random *rand.Rand, wait api.Address) api.AdvPDU {
	p := plain([]int{api.AdvConnectable, api.AdvPlain, api.AdvScannable}[random.Intn(3)], someAddress(random))
	switch random.Intn(10) {
	case 0, 1:
		p = plain(api.AdvScanAnswer, wait)
	case 2, 3:
		p = api.AdvPDU{Kind: api.AdvDirected, Sender: p.Sender, Target: []api.Address{O, O, A, {}}[random.Intn(4)]}
	case 4:
		p.Kind = random.Intn(9) - 1
	case 5:
		p.Sender = many(100)[random.Intn(100)]
	}
	return p
}

// someAdvertiser returns an advertiser of any kind that begins at a time.
func someAdvertiser(t *testing.T, random *rand.Rand, begin int) api.Advertiser {
	t.Helper()
	p := api.AdvParams{Kind: []int{api.AdvConnectable, api.AdvDirected, api.AdvPlain, api.AdvScannable}[random.Intn(4)], Interval: 32 + random.Intn(200), Own: A, Seed: random.Uint64()}
	if p.Kind == api.AdvDirected {
		p.Target = []api.Address{O, B}[random.Intn(2)]
	} else {
		p.Data = []byte{byte(random.Intn(256))}
	}
	a, e := advertiser.Start(p, begin)
	if e != api.OK {
		t.Fatalf("Start(%v): %v", p, e)
	}
	return a
}

// many returns n different public addresses, and persons as many identities.
func many(n int) []api.Address {
	var l []api.Address
	for i := range n {
		l = append(l, address.Random(api.AddrPublic, uint64(1000+i)))
	}
	return l
}

func persons(n int) []api.Identity {
	var l []api.Identity
	for _, a := range many(n) {
		l = append(l, api.Identity{Address: a, IRK: api.Key(a.Bits)})
	}
	return l
}

// made returns a resolvable address of a key.
func made(irk api.Key, prand uint32) api.Address {
	a, e := privacy.Make(irk, prand)
	if e != api.OK {
		panic(e)
	}
	return a
}

// same reports whether two values are equal, where empty lists may be nil or not.
func same[T any](x, y T) bool {
	return fmt.Sprint(x) == fmt.Sprint(y)
}
