package link_test

import (
	"bytes"
	"fmt"
	"math/rand"
	"reflect"
	"slices"
	"testing"

	"wireless/air"
	"wireless/api"
	"wireless/clock"
	"wireless/connect"
	"wireless/crc"
	"wireless/ctrlpdu"
	"wireless/datapdu"
	"wireless/encrypt"
	"wireless/link"
	"wireless/whiten"
)

// A pair is two sides of a connection whose clocks drift, over a medium that loses and breaks packets.
type pair struct {
	t        *testing.T
	sides    [2]api.Link
	clocks   [2]api.Clock
	now      int
	answer   api.Key // the key that the peripheral finds
	queued   [2][]api.Packet
	got      [2][]api.Packet
	told     [2][]api.Indication
	skipped  int // consecutive events
	sent     [2]string
	session  [2]api.Session // when that was sent
	arrivals [2]int         // since it was sent
	states   []api.Link     // all sides so far, and their copies
	copies   []api.Link
	skips    int // all events that were skipped
}

func newPair(t *testing.T, p api.ConnParams, clocks [2]api.Clock) *pair {
	t.Helper()
	x := &pair{t: t, clocks: clocks, answer: 77}
	for i, c := range clocks {
		l, e := link.New(i, p, max(c.PPM, -c.PPM), api.Key(77), uint64(900+i), clock.Local(c, 0))
		if e != api.OK {
			t.Fatalf("New: %v", e)
		}
		x.sides[i] = l
	}
	return x
}

// exact returns a pair with clocks that do not drift.
func exact(t *testing.T, p api.ConnParams) *pair {
	t.Helper()
	return newPair(t, p, [2]api.Clock{})
}

func (x *pair) local(side int, at int) int {
	return clock.Local(x.clocks[side], at)
}

func (x *pair) exists(side int) bool {
	return x.sides[side].Reason == api.ReasonNone
}

func (x *pair) alive() bool {
	return x.exists(0) && x.exists(1)
}

// becomes takes over a side and what it reports.
func (x *pair) becomes(side int, l api.Link, told []api.Indication) {
	x.t.Helper()
	x.sides[side] = l
	looks(x.t, l)
	x.states, x.copies = append(x.states, l), append(x.copies, whole(l))
	for _, i := range told {
		x.told[side] = append(x.told[side], i)
		switch i.Kind {
		case api.IndPacket:
			x.got[side] = append(x.got[side], i.Packet)
		case api.IndKey:
			x.act(side, api.Act{Kind: api.ActKey, Key: x.answer})
		}
	}
}

func (x *pair) act(side int, a api.Act) api.Errno {
	x.t.Helper()
	l, e := do(x.t, x.sides[side], a, x.local(side, x.now))
	if e == api.OK && a.Kind == api.ActSend {
		x.queued[side] = append(x.queued[side], a.Packet)
	}
	x.becomes(side, l, nil)
	return e
}

// must carries out an act that may not be refused.
func (x *pair) must(side int, a api.Act) {
	x.t.Helper()
	if e := x.act(side, a); e != api.OK {
		x.t.Fatalf("Do(%+v) of side %d: %v", a, side, e)
	}
}

// sends lets a side send, and checks that it repeats what it sent before (P30.7).
func (x *pair) sends(side int) []byte {
	x.t.Helper()
	l, b := send(x.t, x.sides[side])
	x.becomes(side, l, nil)
	p := read(x.t, l, b)
	sent := fmt.Sprint(p.SN, p.Packet.LLID, p.Packet.Payload)
	again := x.sent[side] != "" && x.arrivals[side] == 0 && x.session[side] == l.Session
	if again && sent != x.sent[side] {
		x.t.Fatalf("side %d sent %s, and then %s", side, x.sent[side], sent)
	}
	if l.Arq.Empty && len(b) != 5 {
		x.t.Fatalf("side %d sent %x as an empty packet", side, b)
	}
	x.sent[side], x.session[side], x.arrivals[side] = sent, l.Session, 0
	return b
}

// read returns the PDU of bytes that a side sent during its current event.
func read(t *testing.T, l api.Link, b []byte) api.DataPDU {
	t.Helper()
	plain, e := crc.Check(l.Params.Init, whiten.Apply(modelChannel(l), b))
	if e != api.OK {
		t.Fatalf("%x on channel %d: %v", b, modelChannel(l), e)
	}
	p, e := datapdu.Decode(plain)
	if e != api.OK {
		t.Fatalf("%x: %v", plain, e)
	}
	return p
}

// An occasion says which packets of an event are lost or broken, and how many there may be.
type occasion struct {
	lost, broken []int
	packets      int
}

// smooth is an event without losses.
var smooth = occasion{packets: 8}

// event lets an event pass, as layer 31 will define it.
func (x *pair) event(o occasion) {
	x.t.Helper()
	end := x.now
	if x.exists(0) {
		x.now = max(x.now, clock.Real(x.clocks[0], x.sides[0].Anchor))
		end = x.exchange(o)
	} else if x.exists(1) {
		end = max(x.now, clock.Real(x.clocks[1], link.Window(x.sides[1]).End))
	}
	x.now = end
	x.countSkips()
	for i := range 2 {
		l, told := closed(x.t, x.sides[i], x.local(i, x.now))
		x.becomes(i, l, told)
	}
	x.check()
}

// exchange lets the sides send in turn, and returns when the last packet ends.
func (x *pair) exchange(o occasion) int {
	x.t.Helper()
	begin := x.now
	limit := clock.Real(x.clocks[0], x.sides[0].Anchor+x.sides[0].Params.Update.Interval*1250)
	for i := 0; ; i++ {
		from, to := i%2, 1-i%2
		b := x.sends(from)
		end := begin + air.Airtime(len(b))
		if slices.Contains(o.broken, i) {
			b[len(b)-1] ^= 1
		}
		if slices.Contains(o.lost, i) || i == 0 && !x.hears(begin) || !x.exists(to) {
			return end
		}
		l, told, on := receive(x.t, x.sides[to], b, i == 0, x.local(to, begin))
		x.arrivals[to]++
		x.becomes(to, l, told)
		begin = end + api.IFS
		if i == 0 {
			on = l.Good
		}
		late := i%2 == 1 && begin > limit-2*(air.Airtime(260)+api.IFS)
		if !on || !x.exists(to) || i+1 >= o.packets || late {
			return end
		}
	}
}

// hears reports whether the peripheral gets the first packet of an event; it must be able to unless it skips the event.
func (x *pair) hears(begin int) bool {
	x.t.Helper()
	if !x.exists(1) || link.Skips(x.sides[1]) {
		return false
	}
	w, at := link.Window(x.sides[1]), x.local(1, begin)
	if at < w.Start || at > w.End {
		x.t.Fatalf("at %d, when the local time is %d, a packet begins outside of the window %v of %+v", begin, at, w, x.sides[1])
	}
	return true
}

// countSkips checks P30.9.
func (x *pair) countSkips() {
	x.t.Helper()
	p := x.sides[1]
	if !x.exists(1) || p.Got || !link.Skips(p) {
		x.skipped = 0
		return
	}
	x.skips++
	x.skipped++
	if x.skipped > p.Params.Update.Latency {
		x.t.Fatalf("%d events in a row were skipped: %+v", x.skipped, p)
	}
}

// check compares both sides after an event: they deliver everything once and in order, and as long as both exist, they agree, and what is missing is still queued.
func (x *pair) check() {
	x.t.Helper()
	for i := range 2 {
		sent, got := x.queued[i], x.got[1-i]
		if len(got) > len(sent) || !reflect.DeepEqual(list(sent[:len(got)]), list(got)) {
			x.t.Fatalf("side %d queued %v, and the other one got %v", i, sent, got)
		}
		left := 0
		for _, p := range x.sides[i].Arq.Queue {
			if p.LLID != api.LLControl {
				left++
			}
		}
		if missing := len(sent) - len(got); x.alive() && left != missing && left != missing+1 {
			x.t.Fatalf("%d packets are queued on side %d, and %d are missing", left, i, missing)
		}
	}
	if !x.alive() {
		return
	}
	c, p := x.sides[0], x.sides[1]
	if c.Event != p.Event || c.Params != p.Params || link.Channel(c) != link.Channel(p) || !reflect.DeepEqual(x.reported(0, api.IndChange), x.reported(1, api.IndChange)) {
		x.t.Fatalf("the sides differ:\n%+v\n%+v", c, p)
	}
	if c.Procs.Crypt == api.CryptOn && p.Procs.Crypt == api.CryptOn && (c.Session.Key != p.Session.Key || c.Session.Salt != p.Session.Salt) {
		x.t.Fatalf("the sessions differ:\n%+v\n%+v", c, p)
	}
}

// reported returns what a side has reported of a kind.
func (x *pair) reported(side, kind int) []api.Indication {
	var l []api.Indication
	for _, i := range x.told[side] {
		if i.Kind == kind {
			l = append(l, i)
		}
	}
	return l
}

// events lets events pass without losses.
func (x *pair) events(n int) {
	x.t.Helper()
	for range n {
		x.event(smooth)
	}
}

// unchanged checks that all sides so far are as they were when they were returned.
func (x *pair) unchanged() {
	x.t.Helper()
	for i, l := range x.states {
		if !same(l, x.copies[i]) {
			x.t.Fatalf("a side changed later from\n%+v\nto\n%+v", x.copies[i], l)
		}
	}
}

// usual are connection parameters: interval 10 milliseconds, timeout one second.
func usual() api.ConnParams {
	return api.ConnParams{
		Access:    0x50123456,
		Init:      0xabcdef,
		Update:    api.Update{WinSize: 1, Interval: 8, Timeout: 100},
		Map:       api.AllChannels,
		Hop:       7,
		PPM:       50,
		Algorithm: api.HopSum,
	}
}

// updates are connection parameters that can follow one another.
var updates = []api.Update{
	{WinSize: 1, Interval: 8, Timeout: 100},
	{WinSize: 2, WinOffset: 3, Interval: 6, Latency: 3, Timeout: 50},
	{WinSize: 8, WinOffset: 24, Interval: 24, Latency: 9, Timeout: 200},
	{WinSize: 1, WinOffset: 400, Interval: 400, Latency: 1, Timeout: 3200},
	{WinSize: 3, WinOffset: 1, Interval: 16, Latency: 20, Timeout: 100},
	{WinSize: 5, WinOffset: 3200, Interval: 3200, Latency: 2, Timeout: 3200},
}

// someUpdate returns one of the updates, or one that is not valid.
func someUpdate(random *rand.Rand) api.Update {
	u := updates[random.Intn(len(updates))]
	if random.Intn(10) == 0 {
		u.Timeout = 10
	}
	return u
}

// someAct returns an act, mostly one that the side can do.
func someAct(random *rand.Rand, l api.Link) api.Act {
	switch n := random.Intn(100); {
	case n < 55:
		payload := make([]byte, 1+random.Intn(l.Procs.Length+2))
		random.Read(payload)
		return api.Act{Kind: api.ActSend, Packet: api.Packet{LLID: 1 + random.Intn(3)*random.Intn(2), Payload: payload}}
	case n < 62:
		return api.Act{Kind: api.ActUpdate, Update: someUpdate(random)}
	case n < 68:
		return api.Act{Kind: api.ActMap, Map: api.ChannelMap(random.Uint64()) & api.AllChannels}
	case n < 72:
		return api.Act{Kind: api.ActEncrypt, Key: 77, Number: random.Uint64()}
	case n < 75:
		return api.Act{Kind: api.ActFeatures}
	case n < 78:
		return api.Act{Kind: api.ActVersion}
	case n < 82:
		return api.Act{Kind: api.ActPing}
	case n < 87:
		return api.Act{Kind: api.ActLength, Number: uint64(random.Intn(300))}
	case n < 92:
		return api.Act{Kind: api.ActParams, Update: someUpdate(random)}
	case n < 96:
		return api.Act{Kind: api.ActAssess}
	}
	return api.Act{Kind: random.Intn(16), Key: 77, Number: random.Uint64()}
}

// someOccasion returns losses whose number depends on how bad the medium is, from 0 to 10.
func someOccasion(random *rand.Rand, bad int) occasion {
	o := occasion{packets: 2 + random.Intn(7)}
	for i := range o.packets {
		if random.Intn(30) < bad {
			o.lost = append(o.lost, i)
		}
		if random.Intn(60) < bad {
			o.broken = append(o.broken, i)
		}
	}
	return o
}

// What happened in random walks, to see that they were not in vain.
type tally struct {
	events, skips, packets int
	kinds                  [14]int
	reasons                map[int]int
	encrypted              int // packets
}

func (x *pair) count(sum *tally) {
	sum.skips += x.skips
	for i := range 2 {
		sum.packets += len(x.got[i])
		sum.reasons[x.sides[i].Reason]++
		sum.encrypted += int(x.sides[i].Session.Rx)
		for _, told := range x.told[i] {
			sum.kinds[told.Kind]++
		}
	}
}

// walk lets two sides live with random acts and losses.
func walk(t *testing.T, seed int64, sum *tally) {
	t.Helper()
	random := rand.New(rand.NewSource(seed))
	p := usual()
	p.Update = updates[random.Intn(len(updates))]
	p.Algorithm = 1 + random.Intn(2)
	p.PPM = 500
	clocks := [2]api.Clock{{PPM: random.Intn(1001) - 500, Start: random.Intn(1 << 30)}, {PPM: random.Intn(1001) - 500, Start: random.Intn(1 << 30)}}
	x := newPair(t, p, clocks)
	if random.Intn(4) == 0 {
		x.answer = 0
	}
	if random.Intn(3) == 0 { // the counter wraps around soon
		x.sides[0].Event, x.sides[1].Event = 65520, 65520
	}
	bad := random.Intn(11) * random.Intn(2)
	idle := random.Intn(2) == 0 // the sides have little to do, so that latency is used
	for range 120 {
		for i := range 2 {
			for range random.Intn(4) {
				if !idle || random.Intn(12) == 0 {
					x.act(i, someAct(random, x.sides[i]))
				}
			}
		}
		if random.Intn(150) == 0 {
			x.act(random.Intn(2), api.Act{Kind: api.ActTerminate, Number: uint64(random.Intn(300))})
		}
		x.event(someOccasion(random, bad))
		sum.events++
		if !x.exists(0) && !x.exists(1) {
			break
		}
	}
	for i := range 2 {
		if l := x.sides[i]; l.Reason == api.ReasonIntegrity && l.Procs.Ended != api.ReasonIntegrity {
			t.Fatalf("side %d ended with ReasonIntegrity though both keys are equal: %+v", i, x.sides[i])
		}
		lifeless(t, x.sides[i])
	}
	x.unchanged()
	x.count(sum)
}

// lifeless checks P30.8 for a side that has ended.
func lifeless(t *testing.T, l api.Link) {
	t.Helper()
	if l.Reason == api.ReasonNone {
		return
	}
	for kind := range 15 {
		if s, e := do(t, l, api.Act{Kind: kind, Key: 77, Map: 3, Update: updates[0], Packet: api.Packet{LLID: 2, Payload: []byte{1}}}, l.Heard); e != api.ErrState || !same(s, l) {
			t.Fatalf("Do of the act %d after the end: %v", kind, e)
		}
	}
	other := whole(l)
	other.Reason, other.Procs.Ended = api.ReasonNone, api.ReasonNone
	_, b := link.Send(other)
	s, bytesSent := send(t, l)
	if !same(s, l) || len(bytesSent) > 0 {
		t.Fatalf("Send after the end: %x", bytesSent)
	}
	for _, first := range []bool{false, true} {
		if s, told, on := receive(t, l, b, first, l.Heard); !same(s, l) || len(told) > 0 || on {
			t.Fatalf("Receive after the end: %+v, %v", told, on)
		}
	}
	if s, told := closed(t, l, l.Heard+connect.Timeout(l.Params.Update)*2); !same(s, l) || len(told) > 0 {
		t.Fatalf("Close after the end: %+v", told)
	}
	if link.Skips(l) {
		t.Fatalf("a side that has ended skips events: %+v", l)
	}
}

func TestP30_2To9HoldInRandomWalks(t *testing.T) {
	sum := tally{reasons: map[int]int{}}
	for seed := range 150 {
		walk(t, int64(seed), &sum)
	}
	t.Logf("%+v", sum)
	for _, kind := range []int{api.IndPacket, api.IndChange, api.IndEncrypted, api.IndEnded, api.IndFeatures, api.IndVersion, api.IndPing, api.IndKey, api.IndReject, api.IndLength, api.IndParams} {
		if sum.kinds[kind] == 0 {
			t.Errorf("nothing of the kind %d was reported", kind)
		}
	}
	if sum.skips == 0 || sum.packets == 0 || sum.encrypted == 0 || len(sum.reasons) < 4 {
		t.Errorf("the walks were in vain: %+v", sum)
	}
}

// someBytes returns bytes that a side may receive though nobody sent them: PDUs of all sorts, sealed or not, and noise.
func someBytes(random *rand.Rand, l api.Link) []byte {
	payload := make([]byte, random.Intn(20))
	random.Read(payload)
	if len(payload) > 0 && random.Intn(2) == 0 {
		payload[0] = byte(random.Intn(24))
	}
	p := api.DataPDU{SN: random.Intn(2), NESN: random.Intn(2), MD: random.Intn(2), Packet: api.Packet{LLID: 1 + random.Intn(3), Payload: payload}}
	if random.Intn(2) == 0 {
		p.Packet = someControl(random, l)
	}
	if random.Intn(2) == 0 { // as the other side would seal it
		other := l.Session
		other.Role, other.TxOn, other.Tx = 1-l.Role, l.Session.RxOn, l.Session.Rx
		p, _ = encrypt.Seal(other, p)
	}
	b, e := datapdu.Encode(p)
	if e != api.OK || random.Intn(20) == 0 {
		b = bytes.Clone(payload)
	}
	b = whiten.Apply(modelChannel(l), crc.Append(l.Params.Init, b))
	if random.Intn(10) == 0 {
		b[random.Intn(len(b))] ^= byte(1 << random.Intn(8))
	}
	return b
}

// someControl returns a packet with a control PDU that can do something to a side.
func someControl(random *rand.Rand, l api.Link) api.Packet {
	c := []api.Control{
		{Kind: api.CtlUpdate, Update: someUpdate(random), Instant: l.Event + uint16(random.Intn(5))},
		{Kind: api.CtlMap, Map: 33, Instant: l.Event + uint16(random.Intn(5))},
		{Kind: api.CtlEncrypt, Salt: random.Uint64(), Mark: random.Uint64()},
		{Kind: api.CtlEncAnswer, Salt: random.Uint64()},
		{Kind: api.CtlStart},
		{Kind: api.CtlStartAnswer},
		{Kind: api.CtlUnknown, Rejected: random.Intn(24)},
		{Kind: api.CtlFeatures, Features: random.Uint64()},
		{Kind: api.CtlFeatAnswer, Features: random.Uint64()},
		{Kind: api.CtlVersion, Version: random.Intn(256)},
		{Kind: api.CtlReject, Reason: random.Intn(256), Rejected: random.Intn(24)},
		{Kind: api.CtlParams, Update: someUpdate(random)},
		{Kind: api.CtlPing},
		{Kind: api.CtlPingAnswer},
		{Kind: api.CtlLength, Length: 27 + random.Intn(225)},
		{Kind: api.CtlLenAnswer, Length: 27 + random.Intn(225)},
		{Kind: api.CtlTerminate, Reason: random.Intn(256)},
	}[random.Intn(16+random.Intn(20)/19)]
	b, e := ctrlpdu.Encode(c)
	if e != api.OK {
		b = []byte{99}
	}
	return api.Packet{LLID: api.LLControl, Payload: b}
}

// TestP30_2To8HoldForAnyCalls calls the functions in any order, with bytes that no other side sent.
func TestP30_2To8HoldForAnyCalls(t *testing.T) {
	random := rand.New(rand.NewSource(30))
	sum := tally{reasons: map[int]int{}}
	for range 400 {
		p := usual()
		p.Update, p.Algorithm = updates[random.Intn(len(updates))], 1+random.Intn(2)
		now := random.Intn(1 << 40)
		l, e := link.New(random.Intn(2), p, random.Intn(501), api.Key(random.Intn(2)), random.Uint64(), now)
		if e != api.OK {
			t.Fatal(e)
		}
		for range 60 {
			now += random.Intn(20000) * random.Intn(2)
			if random.Intn(200) == 0 {
				now += random.Intn(50000000)
			}
			switch random.Intn(5) {
			case 0:
				l, _ = do(t, l, someAct(random, l), now)
			case 1:
				l, _ = send(t, l)
			case 2, 3:
				l, _, _ = receive(t, l, someBytes(random, l), random.Intn(3) == 0, now)
				if random.Intn(2) == 0 {
					l, _ = do(t, l, api.Act{Kind: api.ActKey, Key: api.Key(random.Intn(3))}, now)
				}
				sum.encrypted += int(min(l.Session.Rx, 1))
			default:
				l, _ = closed(t, l, now)
			}
			looks(t, l)
		}
		sum.reasons[l.Reason]++
		lifeless(t, l)
	}
	t.Logf("%+v", sum)
	for _, reason := range []int{api.ReasonNone, api.ReasonTimeout, api.ReasonResponse, api.ReasonInstant, api.ReasonIntegrity, api.ReasonEstablish} {
		if sum.reasons[reason] == 0 {
			t.Errorf("no side ended with the reason %d", reason)
		}
	}
	if sum.encrypted == 0 {
		t.Error("nothing that was encrypted was received")
	}
}
