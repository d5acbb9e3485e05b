package advertiser_test

import (
	"bytes"
	"fmt"
	"math"
	"math/rand"
	"slices"
	"testing"

	"wireless/accept"
	"wireless/advertiser"
	"wireless/advpdu"
	"wireless/api"
	"wireless/privacy"
)

const (
	second  = 1_000_000
	maxTime = 4 * api.MaxTime // greatest local time
	// otherKind is a number that is not a kind of PDUs and ends with the bits of one.
	otherKind = 1<<32 + api.AdvScannable
)

// The valid addresses of the tests; A to D are those of devices, R and S are resolvable with the key 9, T with the key 8.
var (
	A = api.Address{Kind: api.AddrPublic, Bits: 0xa1b2c3d4}
	B = api.Address{Kind: api.AddrStatic, Bits: 0xc00000000001}
	C = api.Address{Kind: api.AddrPublic, Bits: 1}
	D = api.Address{Kind: api.AddrAnonymous, Bits: 1}
	R = made(9, 77)
	S = made(9, 78)
	T = made(8, 77)
)

// bad is an address that is not valid.
var bad = api.Address{Kind: api.AddrStatic, Bits: 1}

// kinds are the kinds of advertisers, and others those that are none.
var (
	kinds  = []int{api.AdvConnectable, api.AdvDirected, api.AdvPlain, api.AdvScannable}
	others = []int{math.MinInt, -2, -1, api.AdvScanRequest, api.AdvScanAnswer, api.AdvConnect, 7, 8, 15, 16, 22, 255, 256, 1 << 32, otherKind, math.MaxInt}
)

// moments are local times around which mistakes are likely, with the times to which they are limited.
var moments = []struct{ local, limited int }{
	{math.MinInt, 0}, {math.MinInt + 1, 0}, {-api.MaxTime, 0}, {-150, 0}, {-1, 0}, {0, 0}, {1, 1}, {5000, 5000}, {1<<32 - 1, 1<<32 - 1}, {1 << 32, 1 << 32}, {api.MaxTime, api.MaxTime}, {api.MaxTime + 1, api.MaxTime + 1},
	{maxTime - 1, maxTime - 1}, {maxTime, maxTime}, {maxTime + 1, maxTime}, {1 << 48, maxTime}, {math.MaxInt - 2000, maxTime}, {math.MaxInt - 1, maxTime}, {math.MaxInt, maxTime},
}

// conn are valid connection parameters.
var conn = api.ConnParams{Access: 0x12345678, Init: 0xabcdef, Update: api.Update{WinSize: 2, WinOffset: 3, Interval: 40, Latency: 4, Timeout: 100}, Map: 33, Hop: 7, PPM: 70, Algorithm: api.HopSum}

func TestP21_1StartExamples(t *testing.T) {
	short, answer, plain := settings(api.AdvConnectable), settings(api.AdvConnectable), settings(api.AdvPlain)
	short.Interval, answer.Kind, plain.Scan = 31, api.AdvScanAnswer, []byte{2, 1, 6}
	for _, c := range []struct {
		p    api.AdvParams
		want api.Errno
	}{
		{settings(api.AdvConnectable), api.OK}, {short, api.ErrRange}, {answer, api.ErrKind}, {plain, api.ErrInvalid}, {api.AdvParams{}, api.ErrRange}, {api.AdvParams{Interval: 32}, api.ErrKind}, {api.AdvParams{Interval: 32, Own: C}, api.OK},
	} {
		want := api.Advertiser{}
		if c.want == api.OK {
			want = api.Advertiser{Params: c.p, On: true, Next: 5000}
		}
		if got, e := advertiser.Start(c.p, 5000); e != c.want || !same(got, want) {
			t.Errorf("Start(%v, 5000) = %v, %v, want %v, %v", c.p, got, e, want, c.want)
		}
	}
}

func TestP21_1StartAcceptsTheEdges(t *testing.T) {
	for _, kind := range kinds {
		for _, make := range []func(p *api.AdvParams){
			func(p *api.AdvParams) {}, func(p *api.AdvParams) { p.Interval = 32 }, func(p *api.AdvParams) { p.Interval = 33 }, func(p *api.AdvParams) { p.Interval = 16383 }, func(p *api.AdvParams) { p.Interval = 16384 },
			func(p *api.AdvParams) { p.Own = B }, func(p *api.AdvParams) { p.Own = R }, func(p *api.AdvParams) { p.Own = D },
			func(p *api.AdvParams) { p.Policy = api.PolicyAll }, func(p *api.AdvParams) { p.Policy = api.PolicyScan }, func(p *api.AdvParams) { p.Policy = api.PolicyConnect }, func(p *api.AdvParams) { p.Policy = api.PolicyBoth },
			func(p *api.AdvParams) { p.Accept, p.Identities = nil, nil }, func(p *api.AdvParams) { p.Accept = many(api.MaxList) }, func(p *api.AdvParams) { p.Identities = persons(api.MaxList) }, func(p *api.AdvParams) { p.Accept, p.Identities = many(api.MaxList), persons(api.MaxList) },
			func(p *api.AdvParams) { p.Accept = []api.Address{{}, bad, A, A} }, func(p *api.AdvParams) { p.Identities = []api.Identity{{}, {Address: bad, IRK: 9}, {}} },
			func(p *api.AdvParams) { p.Seed = 0 }, func(p *api.AdvParams) { p.Seed = math.MaxUint64 },
			func(p *api.AdvParams) { p.Data, p.Scan = nil, nil }, func(p *api.AdvParams) { p.Data, p.Scan = []byte{}, []byte{} },
			func(p *api.AdvParams) { p.Data, p.Scan = longest(p.Data), longest(p.Scan) },
		} {
			p := settings(kind)
			make(&p)
			if got, e := advertiser.Start(p, 77); e != api.OK || !same(got, api.Advertiser{Params: p, On: true, Next: 77}) {
				t.Errorf("Start(%v, 77) = %v, %v", p, got, e)
			}
		}
	}
	for _, target := range []api.Address{A, B, C, D, R, bad} {
		p := settings(api.AdvDirected)
		p.Target = target
		if _, e := advertiser.Start(p, 0); (e == api.OK) != (target != bad) {
			t.Errorf("Start with the target %v: %v", target, e)
		}
	}
}

func TestP21_1StartLimitsTheTime(t *testing.T) {
	for _, c := range moments {
		p := settings(api.AdvScannable)
		if got, e := advertiser.Start(p, c.local); e != api.OK || !same(got, api.Advertiser{Params: p, On: true, Next: c.limited}) {
			t.Errorf("Start(%v, %d) = %v, %v", p, c.local, got, e)
		}
	}
}

// faults make valid settings wrong, in the order in which Start looks for them; each one is found unless an earlier one is there. A fault is for the kinds that fits reports.
var faults = []struct {
	comment string
	fits    func(kind int) bool
	make    func(p *api.AdvParams)
	want    api.Errno
}{
	{"a kind of requests", all, func(p *api.AdvParams) { p.Kind = api.AdvScanRequest }, api.ErrKind},
	{"a kind of answers", all, func(p *api.AdvParams) { p.Kind = api.AdvScanAnswer }, api.ErrKind},
	{"a kind of connection requests", all, func(p *api.AdvParams) { p.Kind = api.AdvConnect }, api.ErrKind},
	{"an unknown kind", all, func(p *api.AdvParams) { p.Kind = otherKind }, api.ErrKind},
	{"an interval of 31", all, func(p *api.AdvParams) { p.Interval = 31 }, api.ErrRange},
	{"an interval of 16385", all, func(p *api.AdvParams) { p.Interval = 16385 }, api.ErrRange},
	{"no interval", all, func(p *api.AdvParams) { p.Interval = 0 }, api.ErrRange},
	{"a negative interval", all, func(p *api.AdvParams) { p.Interval = -160 }, api.ErrRange},
	{"the least number as interval", all, func(p *api.AdvParams) { p.Interval = math.MinInt }, api.ErrRange},
	{"the greatest number as interval", all, func(p *api.AdvParams) { p.Interval = math.MaxInt }, api.ErrRange},
	{"no own address", all, func(p *api.AdvParams) { p.Own = api.Address{} }, api.ErrKind},
	{"an own address with too great a number", all, func(p *api.AdvParams) { p.Own.Bits |= 1 << 48 }, api.ErrRange},
	{"an own address with a wrong prefix", all, func(p *api.AdvParams) { p.Own = bad }, api.ErrInvalid},
	{"no target", directed, func(p *api.AdvParams) { p.Target = api.Address{} }, api.ErrKind},
	{"a target with too great a number", directed, func(p *api.AdvParams) { p.Target.Bits |= 1 << 63 }, api.ErrRange},
	{"a target with a wrong prefix", directed, func(p *api.AdvParams) { p.Target = bad }, api.ErrInvalid},
	{"a target that is not wanted", undirected, func(p *api.AdvParams) { p.Target = B }, api.ErrInvalid},
	{"an invalid target that is not wanted", undirected, func(p *api.AdvParams) { p.Target = api.Address{Bits: 1 << 63} }, api.ErrInvalid},
	{"32 bytes of data", undirected, func(p *api.AdvParams) { p.Data = fill(32) }, api.ErrTooLong},
	{"287 bytes of data", undirected, func(p *api.AdvParams) { p.Data = fill(287) }, api.ErrTooLong},
	{"a byte of data that is not wanted", directed, func(p *api.AdvParams) { p.Data = fill(1) }, api.ErrInvalid},
	{"32 bytes of data that are not wanted", directed, func(p *api.AdvParams) { p.Data = fill(32) }, api.ErrInvalid},
	{"32 bytes of scan response data", scannable, func(p *api.AdvParams) { p.Scan = fill(32) }, api.ErrTooLong},
	{"287 bytes of scan response data", scannable, func(p *api.AdvParams) { p.Scan = fill(287) }, api.ErrTooLong},
	{"a byte of scan response data that is not wanted", unscannable, func(p *api.AdvParams) { p.Scan = fill(1) }, api.ErrInvalid},
	{"32 bytes of scan response data that are not wanted", unscannable, func(p *api.AdvParams) { p.Scan = fill(32) }, api.ErrInvalid},
	{"the policy -1", all, func(p *api.AdvParams) { p.Policy = -1 }, api.ErrRange},
	{"the policy 4", all, func(p *api.AdvParams) { p.Policy = 4 }, api.ErrRange},
	{"the greatest number as policy", all, func(p *api.AdvParams) { p.Policy = math.MaxInt }, api.ErrRange},
	{"65 accepted addresses", all, func(p *api.AdvParams) { p.Accept = many(65) }, api.ErrTooLong},
	{"65 identities", all, func(p *api.AdvParams) { p.Identities = persons(65) }, api.ErrTooLong},
	{"1000 accepted addresses", all, func(p *api.AdvParams) { p.Accept = many(1000) }, api.ErrTooLong},
}

// all, directed, undirected, scannable and unscannable tell for which kinds of advertisers a fault is one.
func all(int) bool { return true }

func directed(kind int) bool { return kind == 1 }

func undirected(kind int) bool { return kind != 1 }

func scannable(kind int) bool { return kind == 0 || kind == 6 }

func unscannable(kind int) bool { return kind == 1 || kind == 2 }

func TestP21_1StartReturnsTheFirstError(t *testing.T) {
	for _, kind := range kinds {
		for i, first := range faults {
			// The later fault is made first, so that the earlier one stays if both are in the same field; it can be the earlier one itself.
			for _, later := range faults[i:] {
				if !first.fits(kind) || !later.fits(kind) {
					continue
				}
				p := settings(kind)
				later.make(&p)
				first.make(&p)
				if got, e := advertiser.Start(p, 5000); e != first.want || !same(got, api.Advertiser{}) {
					t.Errorf("Start with kind %d, %s and %s = %v, %v, want %v", kind, first.comment, later.comment, got, e, first.want)
				}
			}
		}
	}
}

func TestP21_1StartRefusesOtherKinds(t *testing.T) {
	for _, kind := range others {
		for _, p := range []api.AdvParams{settings(api.AdvConnectable), settings(api.AdvDirected), settings(api.AdvPlain), settings(api.AdvScannable), {Interval: -1, Policy: 4}} {
			p.Kind = kind
			if got, e := advertiser.Start(p, 5000); e != api.ErrKind || !same(got, api.Advertiser{}) {
				t.Errorf("Start(%v, 5000) = %v, %v", p, got, e)
			}
		}
	}
}

func TestP21_1StartFollowsTheDefinition(t *testing.T) {
	random := rand.New(rand.NewSource(1))
	found := map[api.Errno]int{}
	for range 30000 {
		p := settings(kinds[random.Intn(4)])
		for range random.Intn(4) {
			change(random, &p)
		}
		want, e := start(p, 123)
		if got, gotE := advertiser.Start(p, 123); gotE != e || !same(got, want) {
			t.Fatalf("Start(%v, 123) = %v, %v, want %v, %v", p, got, gotE, want, e)
		}
		found[e]++
	}
	for _, e := range []api.Errno{api.OK, api.ErrKind, api.ErrRange, api.ErrInvalid, api.ErrTooLong} {
		if found[e] < 500 {
			t.Errorf("the result was %v only %d times", e, found[e])
		}
	}
}

// start follows the definition of Start.
func start(p api.AdvParams, local int) (api.Advertiser, api.Errno) {
	fail := func(e api.Errno) (api.Advertiser, api.Errno) { return api.Advertiser{}, e }
	if !slices.Contains(kinds, p.Kind) {
		return fail(api.ErrKind)
	}
	if p.Interval < 32 || p.Interval > 16384 {
		return fail(api.ErrRange)
	}
	if e := advpdu.Check(api.AdvPDU{Kind: p.Kind, Sender: p.Own, Target: p.Target, Data: p.Data}); e != api.OK {
		return fail(e)
	}
	if e := advpdu.Check(api.AdvPDU{Kind: api.AdvScanAnswer, Sender: p.Own, Data: p.Scan}); scannable(p.Kind) && e != api.OK {
		return fail(e)
	}
	if !scannable(p.Kind) && len(p.Scan) > 0 {
		return fail(api.ErrInvalid)
	}
	if p.Policy < 0 || p.Policy > 3 {
		return fail(api.ErrRange)
	}
	if len(p.Accept) > 64 || len(p.Identities) > 64 {
		return fail(api.ErrTooLong)
	}
	return api.Advertiser{Params: p, On: true, Next: local}, api.OK
}

// delayVectors are delays that were computed apart from the program.
var delayVectors = []struct {
	seed        uint64
	event, want int
}{
	{0, 0, 8503}, {0, 1, 7770}, {0, 2, 2059}, {0, 255, 9841}, {0, 256, 7301}, {0, 1 << 32, 6284}, {0, math.MaxInt, 731}, {0, -1, 3455}, {0, -256, 2050}, {0, math.MinInt, 8763},
	{1, 0, 1411}, {1, 1, 1634}, {1, -1, 791}, {9, 0, 7562}, {9, 1, 4983}, {9, 2, 8317}, {9, math.MaxInt, 7049}, {9, -256, 8103}, {9, math.MinInt, 4318},
	{0x0123456789abcdef, 0, 5531}, {0x0123456789abcdef, 1, 3977}, {0x0123456789abcdef, 256, 4505}, {0x0123456789abcdef, -256, 935}, {1 << 32, 0, 2671}, {1 << 32, 1, 2540}, {1 << 32, 2, 74}, {1 << 32, 1 << 32, 6372},
	{1 << 63, 0, 7380}, {1 << 63, 1, 8404}, {1 << 63, 255, 237}, {math.MaxUint64, 0, 9024}, {math.MaxUint64, 2, 6907}, {math.MaxUint64, -1, 392}, {math.MaxUint64, math.MinInt, 2692},
}

func TestP21_2DelayExamples(t *testing.T) {
	for _, c := range delayVectors {
		if got := advertiser.Delay(c.seed, c.event); got != c.want {
			t.Errorf("Delay(%x, %d) = %d, want %d", c.seed, c.event, got, c.want)
		}
	}
}

func TestP21_2DelaysAreFrom0To9999(t *testing.T) {
	random := rand.New(rand.NewSource(2))
	least, greatest, sum := 10000, -1, 0
	const count = 100000
	for range count {
		seed, event := random.Uint64(), int(random.Uint64())
		delay := advertiser.Delay(seed, event)
		least, greatest, sum = min(least, delay), max(greatest, delay), sum+delay
		if delay != advertiser.Delay(seed, event) {
			t.Fatalf("Delay(%x, %d) changes", seed, event)
		}
	}
	if least != 0 || greatest != 9999 || sum/count < 4900 || sum/count > 5100 {
		t.Errorf("delays are from %d to %d, %d on average", least, greatest, sum/count)
	}
}

func TestP21_3FireExample(t *testing.T) {
	p := settings(api.AdvConnectable)
	p.Interval, p.Seed = 160, 9
	a := started(t, p, 5000)
	announcement := api.AdvPDU{Kind: api.AdvConnectable, Sender: A, Data: []byte{2, 1, 6}}
	// The delays of the seed 9 are 7562, 4983 and 8317, and the last event is late by 11 microseconds.
	for i, c := range []struct{ local, next int }{{5000, 112562}, {112562, 217545}, {217556, 325873}} {
		var sent []api.Send
		if got, none := advertiser.Fire(a, a.Next-1); !same(got, a) || len(none) != 0 {
			t.Fatalf("Fire(%v, %d) = %v, %v", a, a.Next-1, got, none)
		}
		a, sent = advertiser.Fire(a, c.local)
		if !same(a, api.Advertiser{Params: p, On: true, Event: i + 1, Next: c.next}) {
			t.Fatalf("after event %d the advertiser is %v", i, a)
		}
		if want := []api.Send{{Channel: 37, Time: c.local, PDU: announcement}, {Channel: 38, Time: c.local + 1000, PDU: announcement}, {Channel: 39, Time: c.local + 2000, PDU: announcement}}; !same(sent, want) {
			t.Fatalf("event %d is %v, want %v", i, sent, want)
		}
	}
}

func TestP21_3FireOfEachKind(t *testing.T) {
	for _, kind := range kinds {
		p := settings(kind)
		a, sent := advertiser.Fire(started(t, p, 100), 100)
		if !same(a, api.Advertiser{Params: settings(kind), On: true, Event: 1, Next: 100 + 100000 + advertiser.Delay(p.Seed, 0)}) || len(sent) != 3 {
			t.Fatalf("Fire of kind %d = %v, %v", kind, a, sent)
		}
		for i, s := range sent {
			if want := (api.AdvPDU{Kind: kind, Sender: p.Own, Target: p.Target, Data: p.Data}); s.Channel != 37+i || s.Time != 100+1000*i || !same(s.PDU, want) || advpdu.Check(s.PDU) != api.OK {
				t.Errorf("Fire of kind %d sends %v", kind, s)
			}
		}
	}
}

func TestP21_3FireFollowsTheDefinition(t *testing.T) {
	random := rand.New(rand.NewSource(3))
	fired := 0
	for range 200 {
		p := settings(kinds[random.Intn(4)])
		p.Interval, p.Seed = 32+random.Intn(16353), random.Uint64()
		begin := []int{0, 1, random.Intn(api.MaxTime), api.MaxTime, maxTime - 1, maxTime}[random.Intn(6)]
		a := started(t, p, begin)
		for range 100 {
			local := a.Next + []int{-1, 0, 1, random.Intn(second), -random.Intn(second)}[random.Intn(5)]
			if random.Intn(20) == 0 {
				local = moments[random.Intn(len(moments))].local
			}
			want, sent := fire(a, local)
			got, gotSent := advertiser.Fire(a, local)
			if !same(got, want) || !same(gotSent, sent) {
				t.Fatalf("Fire(%v, %d) = %v, %v, want %v, %v", a, local, got, gotSent, want, sent)
			}
			fired += len(sent)
			a = got
		}
	}
	if fired < 5000 {
		t.Errorf("only %d PDUs were sent", fired)
	}
}

// fire follows the definition of Fire.
func fire(a api.Advertiser, local int) (api.Advertiser, []api.Send) {
	local = max(0, min(local, maxTime))
	if !a.On || local < a.Next {
		return a, nil
	}
	pdu := api.AdvPDU{Kind: a.Params.Kind, Sender: a.Params.Own, Target: a.Params.Target, Data: a.Params.Data}
	a.Next = local + a.Params.Interval*625 + advertiser.Delay(a.Params.Seed, a.Event)
	a.Event++
	return a, []api.Send{{Channel: 37, Time: local, PDU: pdu}, {Channel: 38, Time: local + 1000, PDU: pdu}, {Channel: 39, Time: local + 2000, PDU: pdu}}
}

func TestP21_3FireAtTheEndOfTime(t *testing.T) {
	a := started(t, settings(api.AdvPlain), math.MaxInt)
	if got, sent := advertiser.Fire(a, maxTime-1); !same(got, a) || len(sent) != 0 {
		t.Errorf("Fire before it is due = %v, %v", got, sent)
	}
	a, sent := advertiser.Fire(a, math.MaxInt)
	if len(sent) != 3 || sent[0].Time != maxTime || sent[2].Time != maxTime+2000 || a.Next != maxTime+100000+advertiser.Delay(a.Params.Seed, 0) {
		t.Errorf("Fire at the greatest time = %v, %v", a, sent)
	}
	if got, sent := advertiser.Fire(a, math.MaxInt); !same(got, a) || len(sent) != 0 {
		t.Errorf("Fire after the greatest time = %v, %v", got, sent)
	}
}

func TestP21_3FireOfAnAdvertiserThatIsOff(t *testing.T) {
	for _, a := range []api.Advertiser{{}, advertiser.Stop(started(t, settings(api.AdvConnectable), 0)), connected(t)} {
		for _, c := range moments {
			if got, sent := advertiser.Fire(a, c.local); !same(got, a) || len(sent) != 0 {
				t.Errorf("Fire(%v, %d) = %v, %v", a, c.local, got, sent)
			}
		}
	}
}

func TestP21_4ScanRequests(t *testing.T) {
	for _, c := range []struct {
		comment string
		kind    int
		policy  int
		sender  api.Address
		want    bool
	}{
		{"everybody", api.AdvConnectable, api.PolicyAll, C, true}, {"everybody, of the kind that is only scannable", api.AdvScannable, api.PolicyAll, C, true}, {"a plain advertiser", api.AdvPlain, api.PolicyAll, C, false}, {"a directed advertiser", api.AdvDirected, api.PolicyAll, C, false}, {"a directed advertiser and its target", api.AdvDirected, api.PolicyAll, B, false},
		{"on the list", api.AdvConnectable, api.PolicyScan, D, true}, {"not on the list", api.AdvConnectable, api.PolicyScan, C, false}, {"not on the list, but for connections", api.AdvConnectable, api.PolicyConnect, C, true}, {"not on the list for both", api.AdvConnectable, api.PolicyBoth, C, false}, {"on the list for both", api.AdvScannable, api.PolicyBoth, D, true},
		{"by the identity", api.AdvScannable, api.PolicyScan, S, true}, {"by an identity that is not on the list", api.AdvScannable, api.PolicyScan, T, false}, {"its own address", api.AdvScannable, api.PolicyAll, A, true},
	} {
		p := settings(c.kind)
		p.Policy = c.policy
		a := started(t, p, 5000)
		got, sent, ok := advertiser.Answer(a, scanRequest(c.sender, A), 38, 6300)
		var want []api.Send
		if c.want {
			want = []api.Send{{Channel: 38, Time: 6450, PDU: api.AdvPDU{Kind: api.AdvScanAnswer, Sender: A, Data: []byte{3, 2, 1, 0}}}}
		}
		if !same(got, a) || !same(sent, want) || ok {
			t.Errorf("%s: Answer = %v, %v, %t, want %v", c.comment, got, sent, ok, want)
		}
	}
}

func TestP21_4ConnectionRequests(t *testing.T) {
	target := api.Identity{Address: B, IRK: 9}
	other := api.Identity{Address: C, IRK: 9}
	for _, c := range []struct {
		comment string
		kind    int
		policy  int
		ids     []api.Identity
		sender  api.Address
		want    bool
	}{
		{"everybody", api.AdvConnectable, api.PolicyAll, nil, C, true}, {"everybody if only scan requests are restricted", api.AdvConnectable, api.PolicyScan, nil, C, true}, {"not on the list", api.AdvConnectable, api.PolicyConnect, nil, C, false}, {"on the list", api.AdvConnectable, api.PolicyConnect, nil, D, true}, {"not on the list for both", api.AdvConnectable, api.PolicyBoth, nil, C, false}, {"on the list for both", api.AdvConnectable, api.PolicyBoth, nil, D, true},
		{"by the identity", api.AdvConnectable, api.PolicyBoth, []api.Identity{{Address: D, IRK: 9}}, S, true}, {"without the identity", api.AdvConnectable, api.PolicyBoth, nil, S, false}, {"by an identity that is not on the list", api.AdvConnectable, api.PolicyBoth, []api.Identity{other}, S, false},
		{"a scannable advertiser", api.AdvScannable, api.PolicyAll, nil, C, false}, {"a plain advertiser", api.AdvPlain, api.PolicyAll, nil, C, false},
		{"the target", api.AdvDirected, api.PolicyAll, nil, B, true}, {"not the target", api.AdvDirected, api.PolicyAll, nil, C, false}, {"not the target, but on the list", api.AdvDirected, api.PolicyAll, nil, D, false}, {"the target, which is not on the list", api.AdvDirected, api.PolicyBoth, nil, B, true}, {"the target's identity", api.AdvDirected, api.PolicyAll, []api.Identity{target}, S, true}, {"the target's identity with a policy", api.AdvDirected, api.PolicyConnect, []api.Identity{target}, R, true},
		{"another key", api.AdvDirected, api.PolicyAll, []api.Identity{target}, T, false}, {"another identity", api.AdvDirected, api.PolicyAll, []api.Identity{other}, S, false}, {"another identity that is found first", api.AdvDirected, api.PolicyAll, []api.Identity{other, target}, S, false}, {"the target's identity that is found first", api.AdvDirected, api.PolicyAll, []api.Identity{target, other}, S, true}, {"the second identity", api.AdvDirected, api.PolicyAll, []api.Identity{{Address: C, IRK: 8}, target}, S, true}, {"the target with another identity", api.AdvDirected, api.PolicyAll, []api.Identity{{Address: C, IRK: 9}, {Address: B, IRK: 8}}, B, true}, {"the address of another identity", api.AdvDirected, api.PolicyAll, []api.Identity{target, {Address: C}}, C, false},
	} {
		p := settings(c.kind)
		p.Policy, p.Identities = c.policy, c.ids
		a := started(t, p, 5000)
		want := a
		want.On = !c.want
		if got, sent, ok := advertiser.Answer(a, connectRequest(c.sender, A), 39, 7300); !same(got, want) || len(sent) != 0 || ok != c.want {
			t.Errorf("%s: Answer = %v, %v, %t, want %v, %t", c.comment, got, sent, ok, want, c.want)
		}
	}
}

func TestP21_4AResolvableTarget(t *testing.T) {
	p := settings(api.AdvDirected)
	p.Target, p.Identities = R, []api.Identity{{Address: B, IRK: 9}}
	for _, c := range []struct {
		sender api.Address
		ids    []api.Identity
		want   bool
	}{
		{R, []api.Identity{{Address: B, IRK: 9}}, true}, {R, nil, true}, {S, []api.Identity{{Address: B, IRK: 9}}, false}, {B, []api.Identity{{Address: B, IRK: 9}}, false}, {S, []api.Identity{{Address: R, IRK: 9}}, true},
	} {
		p.Identities = c.ids
		if _, sent, ok := advertiser.Answer(started(t, p, 0), connectRequest(c.sender, A), 37, 500); ok != c.want || len(sent) != 0 {
			t.Errorf("the sender %v with the identities %v: %t", c.sender, c.ids, ok)
		}
	}
}

func TestP21_4OtherPDUsHaveNoEffect(t *testing.T) {
	long, data, noConn, wrongConn, twoParts := scanRequest(B, A), connectRequest(B, A), connectRequest(B, A), connectRequest(B, A), scanRequest(B, A)
	long.Data, data.Data, noConn.Conn, wrongConn.Conn.Hop, twoParts.Conn = fill(1), fill(1), api.ConnParams{}, 17, conn
	wrong := []api.AdvPDU{
		{}, {Kind: api.AdvConnectable, Sender: B}, {Kind: api.AdvPlain, Sender: B}, {Kind: api.AdvScanAnswer, Sender: B}, {Kind: api.AdvScannable, Sender: B}, {Kind: api.AdvDirected, Sender: B, Target: A}, {Kind: 7, Sender: B, Target: A}, {Kind: 1<<32 + api.AdvScanRequest, Sender: B, Target: A}, {Kind: -1, Sender: B, Target: A},
		long, data, noConn, wrongConn, twoParts, scanRequest(api.Address{}, A), scanRequest(bad, A), connectRequest(bad, A), scanRequest(B, api.Address{}), scanRequest(B, C), scanRequest(A, B), connectRequest(B, C), connectRequest(A, B), connectRequest(B, R), scanRequest(B, api.Address{Kind: api.AddrStatic, Bits: A.Bits}), scanRequest(B, api.Address{Kind: A.Kind, Bits: A.Bits | 1<<48}),
	}
	for _, kind := range kinds {
		p := settings(kind)
		p.Policy = api.PolicyAll
		a := started(t, p, 5000)
		for _, pdu := range wrong {
			for channel := 37; channel < 40; channel++ {
				if got, sent, ok := advertiser.Answer(a, pdu, channel, 6300); !same(got, a) || len(sent) != 0 || ok {
					t.Errorf("Answer of kind %d to %v = %v, %v, %t", kind, pdu, got, sent, ok)
				}
			}
		}
	}
}

func TestP21_4OnlyAdvertisersThatAreOnAnswer(t *testing.T) {
	for _, a := range []api.Advertiser{{}, advertiser.Stop(started(t, settings(api.AdvConnectable), 0)), connected(t)} {
		for _, pdu := range []api.AdvPDU{scanRequest(D, A), connectRequest(D, A), {}} {
			if got, sent, ok := advertiser.Answer(a, pdu, 37, 500); !same(got, a) || len(sent) != 0 || ok {
				t.Errorf("Answer(%v, %v, 37, 500) = %v, %v, %t", a, pdu, got, sent, ok)
			}
		}
	}
}

func TestP21_4ChannelsAndTimes(t *testing.T) {
	a := started(t, settings(api.AdvConnectable), 5000)
	for _, channel := range []int{math.MinInt, -219, -1, 0, 1, 36, 37, 38, 39, 40, 41, 256 + 37, 1<<32 + 38, math.MaxInt} {
		advertising := channel == 37 || channel == 38 || channel == 39
		for _, c := range moments {
			got, sent, ok := advertiser.Answer(a, scanRequest(D, A), channel, c.local)
			if !same(got, a) || ok || advertising != (len(sent) == 1) || advertising && (sent[0].Channel != channel || sent[0].Time != c.limited+150) {
				t.Errorf("Answer to a scan request on channel %d at %d = %v, %v, %t", channel, c.local, got, sent, ok)
			}
			got, sent, ok = advertiser.Answer(a, connectRequest(D, A), channel, c.local)
			if got.On == advertising || len(sent) != 0 || ok != advertising {
				t.Errorf("Answer to a connection request on channel %d at %d = %v, %v, %t", channel, c.local, got, sent, ok)
			}
		}
	}
}

func TestP21_4AnswerFollowsTheDefinition(t *testing.T) {
	random := rand.New(rand.NewSource(4))
	answers, connections := 0, 0
	for range 50000 {
		a := someAdvertiser(t, random)
		p, channel, local := someRequest(random), 36+random.Intn(5), random.Intn(second)
		before := fmt.Sprint(a, p)
		want, sent, ok := answer(a, p, channel, local)
		got, gotSent, gotOK := advertiser.Answer(a, p, channel, local)
		if !same(got, want) || !same(gotSent, sent) || gotOK != ok || fmt.Sprint(a, p) != before {
			t.Fatalf("Answer(%v, %v, %d, %d) = %v, %v, %t, want %v, %v, %t", a, p, channel, local, got, gotSent, gotOK, want, sent, ok)
		}
		answers += len(sent)
		if ok {
			connections++
		}
	}
	if answers < 1000 || connections < 1000 {
		t.Errorf("only %d answers and %d connections", answers, connections)
	}
}

// answer follows the definition of Answer.
func answer(a api.Advertiser, p api.AdvPDU, channel, local int) (api.Advertiser, []api.Send, bool) {
	meant := advpdu.Check(p) == api.OK && (p.Kind == api.AdvScanRequest || p.Kind == api.AdvConnect) && p.Target == a.Params.Own
	if !a.On || channel < 37 || channel > 39 || !meant {
		return a, nil, false
	}
	s := a.Params
	allowed := accept.Allows(s.Policy, p.Kind, s.Accept, s.Identities, p.Sender)
	if p.Kind == api.AdvScanRequest {
		if !scannable(s.Kind) || !allowed {
			return a, nil, false
		}
		return a, []api.Send{{Channel: channel, Time: local + 150, PDU: api.AdvPDU{Kind: api.AdvScanAnswer, Sender: s.Own, Data: s.Scan}}}, false
	}
	i := privacy.Find(s.Identities, p.Sender)
	isTarget := p.Sender == s.Target || i >= 0 && s.Identities[i].Address == s.Target
	if s.Kind == api.AdvConnectable && allowed || s.Kind == api.AdvDirected && isTarget {
		a.On = false
		return a, nil, true
	}
	return a, nil, false
}

func TestP21_5Stop(t *testing.T) {
	later, _ := advertiser.Fire(started(t, settings(api.AdvConnectable), 5000), 5000)
	for _, a := range []api.Advertiser{{}, started(t, settings(api.AdvConnectable), 5000), started(t, settings(api.AdvDirected), 0), later, connected(t)} {
		want := a
		want.On = false
		got := advertiser.Stop(a)
		if !same(got, want) || !same(advertiser.Stop(got), want) {
			t.Errorf("Stop(%v) = %v", a, got)
		}
	}
}

func TestP21_6Events(t *testing.T) {
	random := rand.New(rand.NewSource(6))
	for _, interval := range []int{32, 33, 160, 1000, 16384} {
		for _, kind := range kinds {
			p := settings(kind)
			p.Interval, p.Seed = interval, random.Uint64()
			a := started(t, p, 5000)
			last, apart := -1, map[int]bool{}
			for range 200 {
				var sent []api.Send
				a, sent = advertiser.Fire(a, a.Next)
				if len(sent) != 3 {
					t.Fatalf("an event that is due is %v", sent)
				}
				distance := sent[0].Time - last - interval*625
				if last >= 0 && (distance < 0 || distance > 9999) {
					t.Fatalf("events at %d and %d with the interval %d", last, sent[0].Time, interval)
				}
				last, apart[distance] = sent[0].Time, true
			}
			if len(apart) < 100 {
				t.Errorf("the events are always the same time apart")
			}
			stopped := advertiser.Stop(a)
			for i := range 10 {
				if _, sent := advertiser.Fire(stopped, a.Next+i*second); len(sent) != 0 {
					t.Fatalf("an advertiser that was stopped sends %v", sent)
				}
			}
		}
	}
}

func TestP21_6AConnectedAdvertiserSendsNothing(t *testing.T) {
	random := rand.New(rand.NewSource(7))
	off := 0
	for range 20000 {
		a, _, ok := advertiser.Answer(someAdvertiser(t, random), someRequest(random), 37, 500)
		if !ok {
			continue
		}
		off++
		if _, sent := advertiser.Fire(a, maxTime); len(sent) != 0 {
			t.Fatalf("%v sends %v", a, sent)
		}
		if _, sent, ok := advertiser.Answer(a, connectRequest(D, a.Params.Own), 37, 500); len(sent) != 0 || ok {
			t.Fatalf("%v answers", a)
		}
		if _, sent, _ := advertiser.Answer(a, scanRequest(D, a.Params.Own), 37, 500); len(sent) != 0 {
			t.Fatalf("%v answers with %v", a, sent)
		}
	}
	if off < 500 {
		t.Errorf("only %d advertisers were connected", off)
	}
}

func TestP21_7Answers(t *testing.T) {
	random := rand.New(rand.NewSource(8))
	answered := 0
	for range 50000 {
		a, p, channel := someAdvertiser(t, random), someRequest(random), 37+random.Intn(3)
		_, sent, ok := advertiser.Answer(a, p, channel, 500)
		meant := advpdu.Check(p) == api.OK && (p.Kind == api.AdvScanRequest || p.Kind == api.AdvConnect) && p.Target == a.Params.Own
		switch {
		case !meant && (ok || len(sent) != 0):
			t.Fatalf("%v answers %v, which is not meant for it", a, p)
		case len(sent) != 0 && (p.Kind != api.AdvScanRequest || !advpdu.Scannable(a.Params.Kind)):
			t.Fatalf("%v answers %v with %v", a, p, sent)
		case ok && (p.Kind != api.AdvConnect || !advpdu.Connectable(a.Params.Kind)):
			t.Fatalf("%v accepts %v", a, p)
		}
		if a.On && meant && a.Params.Kind == api.AdvConnectable && a.Params.Policy == api.PolicyAll {
			answered++
			if ok != (p.Kind == api.AdvConnect) || len(sent) != 1 && !ok {
				t.Fatalf("%v does not answer %v", a, p)
			}
		}
	}
	if answered < 500 {
		t.Errorf("only %d requests had to be answered", answered)
	}
}

func TestR5ResultsAreNewMemory(t *testing.T) {
	for _, kind := range kinds {
		p := roomy(kind)
		for _, c := range []struct {
			comment string
			do      func(a api.Advertiser) (api.Advertiser, []api.Send)
		}{
			{"started", func(a api.Advertiser) (api.Advertiser, []api.Send) {
				a, _ = advertiser.Start(a.Params, 5000)
				return a, nil
			}},
			{"fired", func(a api.Advertiser) (api.Advertiser, []api.Send) { return advertiser.Fire(a, 5000) }},
			{"not due", func(a api.Advertiser) (api.Advertiser, []api.Send) { return advertiser.Fire(a, 4999) }},
			{"scanned", func(a api.Advertiser) (api.Advertiser, []api.Send) {
				a, sent, _ := advertiser.Answer(a, scanRequest(D, A), 37, 6000)
				return a, sent
			}},
			{"connected", func(a api.Advertiser) (api.Advertiser, []api.Send) {
				a, sent, _ := advertiser.Answer(a, connectRequest(B, A), 37, 6000)
				return a, sent
			}},
			{"not asked", func(a api.Advertiser) (api.Advertiser, []api.Send) {
				a, sent, _ := advertiser.Answer(a, connectRequest(B, C), 37, 6000)
				return a, sent
			}},
			{"stopped", func(a api.Advertiser) (api.Advertiser, []api.Send) { return advertiser.Stop(a), nil }},
		} {
			a := api.Advertiser{Params: p, On: true, Next: 5000}
			checkMemory(t, c.comment, a, c.do)
		}
	}
}

// checkMemory fails if the result of a call shares memory with its argument, or two of its lists with each other.
func checkMemory(t *testing.T, comment string, a api.Advertiser, do func(a api.Advertiser) (api.Advertiser, []api.Send)) {
	t.Helper()
	before := fmt.Sprint(whole(a))
	got, sent := do(a)
	data := [][]byte{got.Params.Data, got.Params.Scan}
	for _, s := range sent {
		data = append(data, s.PDU.Data)
	}
	for i, b := range data {
		overwrite(b, byte(100+i))
	}
	overwrite(got.Params.Accept, bad)
	overwrite(got.Params.Identities, api.Identity{Address: bad})
	for i, b := range data {
		if slices.ContainsFunc(b, func(c byte) bool { return c != byte(100+i) }) {
			t.Errorf("kind %d, %s: the lists of the result share memory", a.Params.Kind, comment)
		}
	}
	if fmt.Sprint(whole(a)) != before {
		t.Errorf("kind %d, %s: the argument became %v", a.Params.Kind, comment, whole(a))
	}
}

// roomy returns settings of a kind whose lists have spare capacity.
func roomy(kind int) api.AdvParams {
	p := settings(kind)
	p.Data, p.Scan = append(make([]byte, 0, 40), p.Data...), append(make([]byte, 0, 40), p.Scan...)
	p.Accept, p.Identities = append(make([]api.Address, 0, 70), p.Accept...), append(make([]api.Identity, 0, 70), p.Identities...)
	return p
}

// whole returns an advertiser with the spare capacity of its lists.
func whole(a api.Advertiser) api.Advertiser {
	p := &a.Params
	p.Data, p.Scan, p.Accept, p.Identities = p.Data[:cap(p.Data)], p.Scan[:cap(p.Scan)], p.Accept[:cap(p.Accept)], p.Identities[:cap(p.Identities)]
	return a
}

// overwrite replaces all elements of a list and of its spare capacity.
func overwrite[T any](l []T, by T) {
	l = l[:cap(l)]
	for i := range l {
		l[i] = by
	}
}

// settings returns valid settings of a kind, with everything that the kind can have.
func settings(kind int) api.AdvParams {
	p := api.AdvParams{Kind: kind, Interval: 160, Own: A, Policy: api.PolicyBoth, Accept: []api.Address{D, B}, Identities: []api.Identity{{Address: C, IRK: 8}, {Address: B, IRK: 9}}, Seed: 0x0123456789abcdef}
	if directed(kind) {
		p.Target = B
	} else {
		p.Data = []byte{2, 1, 6}
	}
	if scannable(kind) {
		p.Scan = []byte{3, 2, 1, 0}
	}
	return p
}

// started returns the advertiser with settings that are valid.
func started(t *testing.T, p api.AdvParams, local int) api.Advertiser {
	t.Helper()
	a, e := advertiser.Start(p, local)
	if e != api.OK {
		t.Fatalf("Start(%v, %d): %v", p, local, e)
	}
	return a
}

// connected returns an advertiser that accepted a connection request.
func connected(t *testing.T) api.Advertiser {
	t.Helper()
	a, _, ok := advertiser.Answer(started(t, settings(api.AdvConnectable), 0), connectRequest(D, A), 37, 500)
	if !ok {
		t.Fatal("the connection request was not accepted")
	}
	return a
}

func scanRequest(sender, target api.Address) api.AdvPDU {
	return api.AdvPDU{Kind: api.AdvScanRequest, Sender: sender, Target: target}
}

func connectRequest(sender, target api.Address) api.AdvPDU {
	return api.AdvPDU{Kind: api.AdvConnect, Sender: sender, Target: target, Conn: conn}
}

// someAddress returns an address of a few, most of which are valid.
func someAddress(random *rand.Rand) api.Address {
	return []api.Address{A, B, C, D, R, S, T, bad, {}}[random.Intn(9)]
}

// someAdvertiser returns an advertiser of any kind with few addresses; some are off.
func someAdvertiser(t *testing.T, random *rand.Rand) api.Advertiser {
	t.Helper()
	p := settings(kinds[random.Intn(4)])
	p.Own, p.Policy, p.Scan = []api.Address{A, A, A, R}[random.Intn(4)], random.Intn(4), p.Scan[:min(len(p.Scan), random.Intn(5))]
	if directed(p.Kind) {
		p.Target = []api.Address{A, B, C, R}[random.Intn(4)]
	}
	p.Accept, p.Identities = nil, nil
	for range random.Intn(3) {
		p.Accept = append(p.Accept, someAddress(random))
	}
	for range random.Intn(4) {
		p.Identities = append(p.Identities, api.Identity{Address: someAddress(random), IRK: []api.Key{0, 8, 9}[random.Intn(3)]})
	}
	a := started(t, p, 100)
	if random.Intn(10) == 0 {
		a = advertiser.Stop(a)
	}
	return a
}

// someRequest returns a PDU; most are valid requests.
func someRequest(random *rand.Rand) api.AdvPDU {
	p := scanRequest(someAddress(random), A)
	if random.Intn(2) == 0 {
		p = connectRequest(p.Sender, p.Target)
	}
	if random.Intn(4) == 0 {
		p.Target = someAddress(random)
	}
	switch random.Intn(20) {
	case 0:
		p.Kind = random.Intn(9) - 1
	case 1:
		p.Data = fill(random.Intn(40))
	case 2:
		p.Conn.Hop = random.Intn(20)
	}
	return p
}

// change changes something in settings, which are not always valid then.
func change(random *rand.Rand, p *api.AdvParams) {
	switch random.Intn(10) {
	case 0:
		p.Kind = random.Intn(9) - 1
	case 1:
		p.Interval = []int{-1, 0, 31, 32, 33, 16383, 16384, 16385}[random.Intn(8)]
	case 2:
		p.Own = someAddress(random)
	case 3:
		p.Target = someAddress(random)
	case 4:
		p.Data = fill(random.Intn(4) * random.Intn(16))
	case 5:
		p.Scan = fill(random.Intn(4) * random.Intn(16))
	case 6:
		p.Policy = random.Intn(7) - 1
	case 7:
		p.Accept = many(60 + random.Intn(8))
	case 8:
		p.Identities = persons(60 + random.Intn(8))
	case 9:
		p.Seed = random.Uint64()
	}
}

// fill returns n bytes that are not 0.
func fill(n int) []byte { return bytes.Repeat([]byte{0xa5}, n) }

// longest returns as many bytes as are permitted in place of some, and none in place of none.
func longest(b []byte) []byte {
	if len(b) == 0 {
		return nil
	}
	return fill(api.MaxAdvData)
}

// many returns n different public addresses, and persons as many identities.
func many(n int) []api.Address {
	var l []api.Address
	for i := range n {
		l = append(l, api.Address{Kind: api.AddrPublic, Bits: uint64(1000 + i)})
	}
	return l
}

func persons(n int) []api.Identity {
	var l []api.Identity
	for _, a := range many(n) {
		l = append(l, api.Identity{Address: a, IRK: api.Key(a.Bits)})
	}
	return l
}

// made returns a resolvable address of a key.
func made(irk api.Key, prand uint32) api.Address {
	a, e := privacy.Make(irk, prand)
	if e != api.OK {
		panic(e)
	}
	return a
}

// same reports whether two values are equal, where empty lists may be nil or not.
func same[T any](x, y T) bool {
	return fmt.Sprint(x) == fmt.Sprint(y)
}
