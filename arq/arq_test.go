package arq_test

import (
	"bytes"
	"math"
	"math/rand"
	"reflect"
	"slices"
	"testing"

	"wireless/api"
	"wireless/arq"
	"wireless/datapdu"
)

// The packets of the tests; none of them is blank, and their payloads differ.
var (
	X     = packet(api.LLStart, 1)
	Y     = packet(api.LLContinue, 2, 3)
	Z     = packet(api.LLControl, 4, 5, 6)
	blank = packet(api.LLContinue)
)

// otherNumbers are neither bits nor kinds of packets; some of them end with bits that are.
var otherNumbers = []int{math.MinInt, math.MinInt + 1, -256, -255, -2, -1, 4, 5, 255, 256, 257, 258, 1 << 32, 1<<32 + 1, 1<<32 + 2, math.MaxInt - 1, math.MaxInt}

// refused are packets that are not valid, or have too many bytes for a queue, or are blank.
func refused() []api.Packet {
	l := []api.Packet{{}, blank, {LLID: api.LLContinue, Payload: []byte{}}, {LLID: api.LLContinue, Payload: fill(5)[:0]}, packet(api.LLStart), packet(api.LLControl), {LLID: api.LLStart, Payload: []byte{}}, packet(0, 1), packet(0, fill(252)...)}
	for _, kind := range []int{api.LLContinue, api.LLStart, api.LLControl} {
		for _, n := range []int{252, 253, 254, 255, 256, 257, 300, 507, 508, 1000, 1 << 16} {
			l = append(l, packet(kind, fill(n)...))
		}
	}
	for _, kind := range otherNumbers {
		l = append(l, packet(kind), packet(kind, 1), packet(kind, fill(251)...), packet(kind, fill(256)...))
	}
	return l
}

func TestP24_1New(t *testing.T) {
	a := arq.New()
	if a.SN != 0 || a.NESN != 0 || len(a.Queue) != 0 || a.Open || a.Empty || a.Acked != 0 || a.Taken != 0 {
		t.Errorf("New = %v", a)
	}
	if !arq.Idle(a) {
		t.Error("a new side is not idle")
	}
}

func TestP24_1Idle(t *testing.T) {
	a := arq.New()
	for n := range api.MaxQueue {
		a = queued(t, a, packet(api.LLStart, byte(n)))
		if arq.Idle(a) {
			t.Errorf("idle with %d packets", n+1)
		}
	}
	sent, _ := arq.Send(a)
	if arq.Idle(sent) {
		t.Error("idle with an open packet and others")
	}
	a, _ = arq.Send(arq.New())
	if !arq.Idle(a) {
		t.Error("not idle with an open blank packet")
	}
	if arq.Idle(queued(t, a, X)) {
		t.Error("idle with a packet behind an open blank one")
	}
	a, _ = arq.Send(queued(t, arq.New(), X))
	if arq.Idle(a) {
		t.Error("idle with an open packet")
	}
	if a, _, _, _ = arq.Take(a, pdu(0, 0, 0, blank)); arq.Idle(a) {
		t.Error("idle with an open packet that was not acknowledged")
	}
	if a, _, _, _ = arq.Take(a, pdu(1, 1, 0, blank)); !arq.Idle(a) {
		t.Error("not idle though everything was acknowledged")
	}
}

func TestP24_2QueueAppends(t *testing.T) {
	for name, a := range states(t) {
		for _, p := range []api.Packet{X, Y, Z, packet(api.LLContinue, 0), packet(api.LLStart, fill(251)...), packet(api.LLContinue, fill(251)...), packet(api.LLControl, fill(251)...), packet(api.LLControl, fill(250)...)} {
			if len(a.Queue) == api.MaxQueue {
				continue
			}
			want := whole(a)
			want.Queue = append(want.Queue, p)
			if got, e := arq.Queue(a, p); e != api.OK || !same(got, want) {
				t.Errorf("%s: Queue(%v) = %v, %v, want %v", name, p, got, e, want)
			}
		}
	}
}

func TestP24_2QueueKeepsTheOrder(t *testing.T) {
	a := arq.New()
	for _, p := range []api.Packet{X, Y, Z, X, X} {
		a = queued(t, a, p)
	}
	if want := (api.Arq{Queue: []api.Packet{X, Y, Z, X, X}}); !same(a, want) {
		t.Errorf("the side is %v, want %v", a, want)
	}
}

func TestP24_2QueueRefuses(t *testing.T) {
	for name, a := range states(t) {
		before := whole(a)
		for _, p := range refused() {
			if got, e := arq.Queue(a, p); e != api.ErrInvalid || !same(got, before) {
				t.Errorf("%s: Queue of kind %d with %d bytes = %v, %v", name, p.LLID, len(p.Payload), got, e)
			}
		}
		if !same(a, before) {
			t.Errorf("%s: the side became %v", name, a)
		}
	}
}

func TestP24_2QueueIsFull(t *testing.T) {
	a := arq.New()
	for n := range 64 {
		got, e := arq.Queue(a, packet(api.LLStart, byte(n)))
		if e != api.OK || len(got.Queue) != n+1 {
			t.Fatalf("packet %d: %v, %v", n, got, e)
		}
		a = got
	}
	checkFull(t, "64 packets", a)
	a, _ = arq.Send(a)
	checkFull(t, "64 packets, the first one open", a)
	a, _, _, _ = arq.Take(a, pdu(0, 0, 0, Y))
	checkFull(t, "64 packets, the first one not acknowledged", a)
	a, _, _, _ = arq.Take(a, pdu(1, 1, 0, Y))
	a = queued(t, a, X)
	checkFull(t, "again 64 packets", a)
	a, _ = arq.Send(arq.New())
	for range 64 {
		a = queued(t, a, X)
	}
	checkFull(t, "64 packets and an open blank one", a)
}

// checkFull checks that a side takes no packets, and that packets that no side takes are refused for what they are.
func checkFull(t *testing.T, comment string, a api.Arq) {
	t.Helper()
	before := whole(a)
	for _, p := range []api.Packet{X, Y, Z, packet(api.LLStart, fill(251)...)} {
		if got, e := arq.Queue(a, p); e != api.ErrFull || !same(got, before) {
			t.Errorf("%s: Queue(%v) = %v, %v", comment, p, got, e)
		}
	}
	for _, p := range refused() {
		if got, e := arq.Queue(a, p); e != api.ErrInvalid || !same(got, before) {
			t.Errorf("%s: Queue of kind %d with %d bytes = %v, %v", comment, p.LLID, len(p.Payload), got, e)
		}
	}
}

func TestP24_3SendExampleOfTwoPackets(t *testing.T) {
	a := queued(t, queued(t, arq.New(), X), Y)
	for i := range 3 {
		next, p := arq.Send(a)
		if want := (api.Arq{Queue: []api.Packet{X, Y}, Open: true}); !same(next, want) || !samePDU(p, pdu(0, 0, 1, X)) {
			t.Fatalf("sent %d times: %v, %v", i, next, p)
		}
		a = next
	}
	a, _, _, acked := arq.Take(a, pdu(0, 1, 0, blank))
	if want := (api.Arq{SN: 1, NESN: 1, Queue: []api.Packet{Y}, Acked: 1}); !acked || !same(a, want) {
		t.Fatalf("acknowledged: %v, %t", a, acked)
	}
	a, p := arq.Send(a)
	if want := (api.Arq{SN: 1, NESN: 1, Queue: []api.Packet{Y}, Open: true, Acked: 1}); !same(a, want) || !samePDU(p, pdu(1, 1, 0, Y)) {
		t.Errorf("the second packet: %v, %v", a, p)
	}
}

func TestP24_3SendExampleOfABlankPacket(t *testing.T) {
	a, p := arq.Send(arq.New())
	if want := (api.Arq{Open: true, Empty: true}); !same(a, want) || !samePDU(p, pdu(0, 0, 0, blank)) {
		t.Fatalf("nothing to send: %v, %v", a, p)
	}
	a = queued(t, a, X)
	if a, p = arq.Send(a); !same(a, api.Arq{Open: true, Empty: true, Queue: []api.Packet{X}}) || !samePDU(p, pdu(0, 0, 1, blank)) {
		t.Errorf("a packet behind the blank one: %v, %v", a, p)
	}
	a, _, _, acked := arq.Take(a, pdu(1, 1, 0, Y))
	if !acked || !same(a, api.Arq{SN: 1, Queue: []api.Packet{X}}) {
		t.Errorf("the blank one is acknowledged: %v, %t", a, acked)
	}
	if a, p = arq.Send(a); !same(a, api.Arq{SN: 1, Queue: []api.Packet{X}, Open: true}) || !samePDU(p, pdu(1, 0, 0, X)) {
		t.Errorf("the packet: %v, %v", a, p)
	}
}

func TestP24_3MoreData(t *testing.T) {
	for n := range api.MaxQueue + 1 {
		fresh, behind := arq.New(), arq.New()
		behind, _ = arq.Send(behind)
		for i := range n {
			fresh, behind = queued(t, fresh, packet(api.LLStart, byte(i))), queued(t, behind, packet(api.LLStart, byte(i)))
		}
		first := blank
		if n > 0 {
			first = packet(api.LLStart, 0)
		}
		if _, p := arq.Send(fresh); !samePDU(p, pdu(0, 0, bit(n > 1), first)) {
			t.Errorf("%d packets: %v", n, p)
		}
		if _, p := arq.Send(behind); !samePDU(p, pdu(0, 0, bit(n > 0), blank)) {
			t.Errorf("%d packets behind a blank one: %v", n, p)
		}
	}
	a, p := arq.Send(queued(t, arq.New(), X))
	if p.MD != 0 {
		t.Errorf("one packet: %v", p)
	}
	if _, p = arq.Send(queued(t, a, Y)); !samePDU(p, pdu(0, 0, 1, X)) {
		t.Errorf("a packet was queued behind the open one: %v", p)
	}
}

func TestP24_3SendOfEachState(t *testing.T) {
	for name, a := range states(t) {
		before := whole(a)
		want, wantPDU := send(a)
		got, p := arq.Send(a)
		if !same(got, want) || !samePDU(p, wantPDU) {
			t.Errorf("%s: Send = %v, %v, want %v, %v", name, got, p, want, wantPDU)
		}
		if !same(a, before) {
			t.Errorf("%s: the side became %v", name, a)
		}
		if e := datapdu.Check(p); e != api.OK {
			t.Errorf("%s: the PDU is not valid: %v", name, e)
		}
		if again, q := arq.Send(got); !same(again, got) || !samePDU(q, p) {
			t.Errorf("%s: sent again: %v, %v", name, again, q)
		}
	}
}

func TestP24_4TakeExample(t *testing.T) {
	a, got, fresh, acked := arq.Take(arq.New(), pdu(0, 0, 0, X))
	if !same(a, api.Arq{NESN: 1, Taken: 1}) || !samePacket(got, X) || !fresh || acked {
		t.Fatalf("the first packet: %v, %v, %t, %t", a, got, fresh, acked)
	}
	b, got, fresh, acked := arq.Take(a, pdu(0, 0, 0, X))
	if !same(b, a) || !zero(got) || fresh || acked {
		t.Errorf("its repetition: %v, %v, %t, %t", b, got, fresh, acked)
	}
	b, got, fresh, acked = arq.Take(a, pdu(1, 0, 1, Y))
	if !same(b, api.Arq{Taken: 2}) || !samePacket(got, Y) || !fresh || acked {
		t.Errorf("the second packet: %v, %v, %t, %t", b, got, fresh, acked)
	}
}

func TestP24_4BlankPacketsAreNotFresh(t *testing.T) {
	for _, p := range []api.Packet{blank, {LLID: api.LLContinue, Payload: []byte{}}} {
		a, got, fresh, acked := arq.Take(arq.New(), pdu(0, 0, 0, p))
		if !same(a, api.Arq{NESN: 1}) || !zero(got) || fresh || acked {
			t.Errorf("a new blank packet: %v, %v, %t, %t", a, got, fresh, acked)
		}
		b, got, fresh, acked := arq.Take(a, pdu(0, 1, 1, p))
		if !same(b, a) || !zero(got) || fresh || acked {
			t.Errorf("its repetition: %v, %v, %t, %t", b, got, fresh, acked)
		}
	}
	if a, got, fresh, _ := arq.Take(arq.New(), pdu(0, 0, 0, packet(api.LLContinue, 0))); !fresh || !samePacket(got, packet(api.LLContinue, 0)) || a.Taken != 1 {
		t.Errorf("a continuation with a zero: %v, %v, %t", a, got, fresh)
	}
}

func TestP24_4Acknowledgements(t *testing.T) {
	for _, c := range []struct {
		comment string
		a       api.Arq
		nesn    int
		want    api.Arq
		acked   bool
	}{
		{"nothing is open", arq.New(), 1, arq.New(), false},
		{"nothing is open and a packet is queued", queued(t, arq.New(), X), 1, api.Arq{Queue: []api.Packet{X}}, false},
		{"a blank packet is not acknowledged", sent(arq.New()), 0, api.Arq{Open: true, Empty: true}, false},
		{"a blank packet", sent(arq.New()), 1, api.Arq{SN: 1}, true},
		{"a blank packet before others", queued(t, sent(arq.New()), X), 1, api.Arq{SN: 1, Queue: []api.Packet{X}}, true},
		{"a packet is not acknowledged", sent(queued(t, arq.New(), X)), 0, api.Arq{Queue: []api.Packet{X}, Open: true}, false},
		{"the only packet", sent(queued(t, arq.New(), X)), 1, api.Arq{SN: 1, Acked: 1}, true},
		{"the first of two packets", sent(queued(t, queued(t, arq.New(), X), Y)), 1, api.Arq{SN: 1, Queue: []api.Packet{Y}, Acked: 1}, true},
		{"a packet before one that was queued later", queued(t, sent(queued(t, arq.New(), X)), Y), 1, api.Arq{SN: 1, Queue: []api.Packet{Y}, Acked: 1}, true},
		{"the second packet is not acknowledged", sent(second(t)), 1, api.Arq{SN: 1, Queue: []api.Packet{Y, Z}, Open: true, Acked: 1}, false},
		{"the second packet", sent(second(t)), 0, api.Arq{Queue: []api.Packet{Z}, Acked: 2}, true},
		{"nothing is open after the first packet", second(t), 0, api.Arq{SN: 1, Queue: []api.Packet{Y, Z}, Acked: 1}, false},
	} {
		for _, p := range []api.Packet{blank, X} {
			// The PDUs are repetitions, so that only the acknowledgement counts.
			got, packet, fresh, acked := arq.Take(c.a, pdu(1-c.a.NESN, c.nesn, 0, p))
			c.want.NESN = c.a.NESN
			if !same(got, c.want) || !zero(packet) || fresh || acked != c.acked {
				t.Errorf("%s: %v, %v, %t, %t, want %v", c.comment, got, packet, fresh, acked, c.want)
			}
		}
		got, packet, fresh, acked := arq.Take(c.a, pdu(c.a.NESN, c.nesn, 1, Z))
		c.want.NESN, c.want.Taken = 1-c.a.NESN, c.a.Taken+1
		if !same(got, c.want) || !samePacket(packet, Z) || !fresh || acked != c.acked {
			t.Errorf("%s, with a new packet: %v, %v, %t, %t, want %v", c.comment, got, packet, fresh, acked, c.want)
		}
	}
}

// second returns a side whose first packet of three is acknowledged.
func second(t *testing.T) api.Arq {
	t.Helper()
	a, _, _, _ := arq.Take(sent(queued(t, queued(t, queued(t, arq.New(), X), Y), Z)), pdu(1, 1, 0, blank))
	return a
}

func TestP24_4InvalidPDUsHaveNoEffect(t *testing.T) {
	var wrong []api.DataPDU
	for _, n := range append([]int{2, 3}, otherNumbers...) {
		wrong = append(wrong, pdu(n, 0, 0, X), pdu(n, 1, 0, X), pdu(0, n, 0, X), pdu(1, n, 0, X), pdu(0, 1, n, X), pdu(1, 0, n, X), pdu(0, 1, n, blank))
	}
	for _, n := range append([]int{0}, otherNumbers...) {
		for i := range 4 {
			wrong = append(wrong, pdu(i%2, i/2, 0, packet(n, 1)), pdu(i%2, i/2, 0, packet(n)))
		}
	}
	for i := range 4 {
		wrong = append(wrong, pdu(i%2, i/2, 0, packet(api.LLStart)), pdu(i%2, i/2, 0, packet(api.LLControl)), pdu(i%2, i/2, 0, packet(api.LLStart, fill(256)...)), pdu(i%2, i/2, 1, packet(api.LLContinue, fill(256)...)), pdu(i%2, i/2, 0, packet(api.LLControl, fill(1000)...)))
	}
	wrong = append(wrong, api.DataPDU{}, api.DataPDU{SN: 1, NESN: 1})
	for name, a := range states(t) {
		before := whole(a)
		for _, p := range wrong {
			s, got, fresh, acked := arq.Take(a, p)
			if !same(s, before) || !zero(got) || fresh || acked {
				t.Errorf("%s: Take(%v) = %v, %v, %t, %t", name, p, s, got, fresh, acked)
			}
		}
	}
}

func TestP24_4PayloadsOfUpTo255BytesAreTaken(t *testing.T) {
	for _, kind := range []int{api.LLContinue, api.LLStart, api.LLControl} {
		for n := 1; n <= 255; n++ {
			p := packet(kind, fill(n)...)
			if a, got, fresh, _ := arq.Take(arq.New(), pdu(0, 0, 0, p)); !fresh || !samePacket(got, p) || !same(a, api.Arq{NESN: 1, Taken: 1}) {
				t.Errorf("%d bytes: %v, %v, %t", n, a, got, fresh)
			}
		}
	}
}

func TestP24_4TakeInEachState(t *testing.T) {
	found := map[[4]bool]int{}
	for name, a := range states(t) {
		before := whole(a)
		for i := range 8 {
			for _, packet := range []api.Packet{blank, X, Y, Z} {
				p := pdu(i%2, i/2%2, i/4, packet)
				want, wantGot, wantFresh, wantAcked := take(a, p)
				s, got, fresh, acked := arq.Take(a, p)
				if !same(s, want) || !samePacket(got, wantGot) || fresh != wantFresh || acked != wantAcked {
					t.Errorf("%s: Take(%v) = %v, %v, %t, %t, want %v, %v, %t, %t", name, p, s, got, fresh, acked, want, wantGot, wantFresh, wantAcked)
				}
				found[[4]bool{a.Open, a.Empty, fresh, acked}]++
			}
		}
		if !same(a, before) {
			t.Errorf("%s: the side became %v", name, a)
		}
	}
	for _, outcome := range [][4]bool{{false, false, false, false}, {false, false, true, false}, {true, false, false, false}, {true, false, true, false}, {true, false, false, true}, {true, false, true, true}, {true, true, false, false}, {true, true, true, false}, {true, true, false, true}, {true, true, true, true}} {
		if found[outcome] == 0 {
			t.Errorf("Open, Empty, fresh and acked were never %v", outcome)
		}
	}
}

func TestP24_2To4FollowTheDefinitions(t *testing.T) {
	random := rand.New(rand.NewSource(1))
	for range 300 {
		a := arq.New()
		for range 300 {
			before := whole(a)
			next, want := a, whole(a)
			switch random.Intn(5) {
			case 0, 1:
				p := somePacket(random)
				var e, wantE api.Errno
				next, e = arq.Queue(a, p)
				want, wantE = queue(want, p)
				if e != wantE {
					t.Fatalf("Queue(%v, %v): %v, want %v", a, p, e, wantE)
				}
			case 2:
				var p, wantPDU api.DataPDU
				next, p = arq.Send(a)
				want, wantPDU = send(want)
				if !samePDU(p, wantPDU) {
					t.Fatalf("Send(%v): %v, want %v", a, p, wantPDU)
				}
			default:
				p := somePDU(random)
				var got, wantGot api.Packet
				var fresh, acked, wantFresh, wantAcked bool
				next, got, fresh, acked = arq.Take(a, p)
				want, wantGot, wantFresh, wantAcked = take(want, p)
				if !samePacket(got, wantGot) || fresh != wantFresh || acked != wantAcked {
					t.Fatalf("Take(%v, %v): %v, %t, %t, want %v, %t, %t", a, p, got, fresh, acked, wantGot, wantFresh, wantAcked)
				}
			}
			if !same(next, want) {
				t.Fatalf("the side %v became %v, want %v", before, next, want)
			}
			if !same(a, before) {
				t.Fatalf("the argument %v became %v", before, a)
			}
			if arq.Idle(next) != (len(next.Queue) == 0) {
				t.Fatalf("Idle(%v) is wrong", next)
			}
			a = next
		}
	}
}

// queue is P24.2.
func queue(a api.Arq, p api.Packet) (api.Arq, api.Errno) {
	if p.LLID < 1 || p.LLID > 3 || len(p.Payload) == 0 || len(p.Payload) > 251 {
		return a, api.ErrInvalid
	}
	if len(a.Queue) == 64 {
		return a, api.ErrFull
	}
	a.Queue = slices.Concat(a.Queue, []api.Packet{p})
	return a, api.OK
}

// send is P24.3.
func send(a api.Arq) (api.Arq, api.DataPDU) {
	if !a.Open {
		a.Open = true
		a.Empty = len(a.Queue) == 0
	}
	p := api.DataPDU{SN: a.SN, NESN: a.NESN}
	if a.Empty {
		p.Packet, p.MD = blank, bit(len(a.Queue) >= 1)
	} else {
		p.Packet, p.MD = a.Queue[0], bit(len(a.Queue) >= 2)
	}
	return a, p
}

// take is P24.4.
func take(a api.Arq, p api.DataPDU) (api.Arq, api.Packet, bool, bool) {
	var got api.Packet
	fresh, acked := false, false
	if datapdu.Check(p) != api.OK {
		return a, got, fresh, acked
	}
	if a.Open && p.NESN != a.SN {
		acked = true
		a.SN = 1 - a.SN
		if !a.Empty {
			a.Queue = a.Queue[1:]
			a.Acked++
		}
		a.Open = false
		a.Empty = false
	}
	if p.SN == a.NESN {
		a.NESN = 1 - a.NESN
		if p.Packet.LLID != 1 || len(p.Packet.Payload) > 0 {
			fresh = true
			got = p.Packet
			a.Taken++
		}
	}
	return a, got, fresh, acked
}

// pair is two sides that exchange PDUs, what was queued on each, and what each got from the other.
type pair struct {
	sides  [2]api.Arq
	queued [2][]api.Packet
	got    [2][]api.Packet
}

// queue queues a packet on a side, if it has room.
func (c pair) queue(t *testing.T, side int, p api.Packet) pair {
	t.Helper()
	next, e := arq.Queue(c.sides[side], p)
	if e != api.OK && (e != api.ErrFull || len(c.sides[side].Queue) != api.MaxQueue) {
		t.Fatalf("Queue(%v, %v): %v", c.sides[side], p, e)
	}
	if e == api.OK {
		c.queued[side] = slices.Concat(c.queued[side], []api.Packet{p})
	}
	c.sides[side] = next
	return c
}

// send lets a side send a PDU, which is taken by the other side or lost.
func (c pair) send(side int, lost bool) pair {
	var p api.DataPDU
	c.sides[side], p = arq.Send(c.sides[side])
	if lost {
		return c
	}
	to := 1 - side
	next, got, fresh, _ := arq.Take(c.sides[to], p)
	c.sides[to] = next
	if fresh {
		c.got[to] = slices.Concat(c.got[to], []api.Packet{got})
	}
	return c
}

// check checks P24.5 for both directions.
func (c pair) check(t *testing.T) {
	t.Helper()
	for from := range 2 {
		to := 1 - from
		a, b, all, got := c.sides[from], c.sides[to], c.queued[from], c.got[to]
		if len(got) > len(all) || !samePackets(got, all[:len(got)]) {
			t.Fatalf("%v was queued, and %v arrived", all, got)
		}
		if b.Taken != len(got) {
			t.Fatalf("%d packets arrived, and Taken is %d", len(got), b.Taken)
		}
		if a.Acked < 0 || a.Acked > len(all) || !samePackets(a.Queue, all[a.Acked:]) {
			t.Fatalf("%v was queued, Acked is %d, and the queue is %v", all, a.Acked, a.Queue)
		}
		if b.Taken != a.Acked && b.Taken != a.Acked+1 {
			t.Fatalf("Taken is %d, and Acked is %d", b.Taken, a.Acked)
		}
	}
}

func TestP24_5OnceInAllShortExchanges(t *testing.T) {
	exchanges := 0
	var explore func(c pair, depth int)
	explore = func(c pair, depth int) {
		c.check(t)
		exchanges++
		if depth == 0 {
			return
		}
		for side := range 2 {
			explore(c.queue(t, side, packet(api.LLStart, byte(side), byte(len(c.queued[side])))), depth-1)
			explore(c.send(side, false), depth-1)
			explore(c.send(side, true), depth-1)
		}
	}
	explore(pair{[2]api.Arq{arq.New(), arq.New()}, [2][]api.Packet{}, [2][]api.Packet{}}, 7)
	if exchanges != 335923 {
		t.Errorf("%d exchanges were checked", exchanges)
	}
}

func TestP24_5OnceInLongExchanges(t *testing.T) {
	random := rand.New(rand.NewSource(2))
	arrived, repeated := 0, 0
	for round := range 60 {
		c := pair{sides: [2]api.Arq{arq.New(), arq.New()}}
		losses := round % 10
		for range 600 {
			side := random.Intn(2)
			if random.Intn(3) == 0 {
				c = c.queue(t, side, validPacket(random))
				continue
			}
			if c.sides[side].Open && !c.sides[side].Empty {
				repeated++
			}
			c = c.send(side, random.Intn(10) < losses)
			c.check(t)
		}
		arrived += len(c.got[0]) + len(c.got[1])
	}
	if arrived < 3000 || repeated < 3000 {
		t.Errorf("%d packets arrived, and %d were sent again", arrived, repeated)
	}
}

func TestP24_6OpenPacketsAreRepeated(t *testing.T) {
	random := rand.New(rand.NewSource(3))
	repetitions := 0
	for range 2000 {
		a, first := arq.Send(someSide(t, random))
		for range random.Intn(20) {
			switch random.Intn(3) {
			case 0:
				a, _ = arq.Queue(a, validPacket(random))
			case 1:
				a, _, _, _ = arq.Take(a, pdu(random.Intn(2), first.SN, random.Intn(2), validPacket(random)))
			case 2:
				next, p := arq.Send(a)
				if !same(next, a) || p.SN != first.SN || !samePacket(p.Packet, first.Packet) {
					t.Fatalf("%v was sent first, then %v", first, p)
				}
				repetitions++
			}
		}
		a, _, _, acked := arq.Take(a, pdu(random.Intn(2), 1-first.SN, 0, blank))
		if !acked {
			t.Fatalf("%v was not acknowledged", first)
		}
		if _, p := arq.Send(a); p.SN != 1-first.SN {
			t.Fatalf("%v is followed by %v", first, p)
		}
	}
	if repetitions < 2000 {
		t.Errorf("only %d repetitions", repetitions)
	}
}

func TestP24_7Progress(t *testing.T) {
	for n := range api.MaxQueue + 1 {
		for _, others := range []int{0, 1, 2, n, api.MaxQueue} {
			for side := range 2 {
				c := pair{sides: [2]api.Arq{arq.New(), arq.New()}}
				checkProgress(t, c, side, n, others)
			}
		}
	}
}

func TestP24_7ProgressAfterAnExchange(t *testing.T) {
	random := rand.New(rand.NewSource(4))
	checked, open := 0, 0
	for range 4000 {
		c := pair{sides: [2]api.Arq{arq.New(), arq.New()}}
		for range random.Intn(12) {
			side := random.Intn(2)
			if random.Intn(3) == 0 {
				c = c.queue(t, side, validPacket(random))
			}
			c = c.send(side, random.Intn(3) == 0)
		}
		side := random.Intn(2)
		a := c.sides[side]
		// An open blank packet is sent before those that are queued later, so that they need a turn more.
		if a.Open && a.Empty {
			continue
		}
		checked++
		open += bit(a.Open)
		checkProgress(t, c, side, len(a.Queue)+random.Intn(20), random.Intn(10))
	}
	if checked < 500 || open < 100 {
		t.Errorf("%d exchanges were checked, %d of them with an open packet", checked, open)
	}
}

// checkProgress queues packets on a side until it has n of them, and a few others on the other side, and checks that n turns suffice for those of the side.
func checkProgress(t *testing.T, c pair, side, n, others int) {
	t.Helper()
	for len(c.sides[side].Queue) < n {
		c = c.queue(t, side, packet(api.LLStart, byte(len(c.queued[side])), 9))
	}
	for i := range others {
		c = c.queue(t, 1-side, packet(api.LLControl, byte(i)))
	}
	for turn := range n {
		if arq.Idle(c.sides[side]) {
			t.Fatalf("%d packets needed only %d turns", n, turn)
		}
		c = c.send(side, false).send(1-side, false)
	}
	if !samePackets(c.got[1-side], c.queued[side]) {
		t.Errorf("%d packets: %v was queued, and %v arrived", n, c.queued[side], c.got[1-side])
	}
	if !arq.Idle(c.sides[side]) {
		t.Errorf("%d packets: the side is not idle: %v", n, c.sides[side])
	}
}

func TestR1NoStateIsTooStrange(t *testing.T) {
	for _, sn := range append([]int{0, 1}, otherNumbers...) {
		for _, nesn := range append([]int{0, 1}, otherNumbers...) {
			for i := range 4 {
				for _, queue := range [][]api.Packet{nil, {{}}, {blank, X}, make([]api.Packet, 100)} {
					a := api.Arq{SN: sn, NESN: nesn, Queue: queue, Open: i%2 == 1, Empty: i/2 == 1, Acked: math.MaxInt, Taken: math.MinInt}
					arq.Idle(a)
					arq.Queue(a, X)
					arq.Send(a)
					for j := range 4 {
						arq.Take(a, pdu(j%2, j/2, 0, X))
					}
				}
			}
		}
	}
}

func TestR5ResultsAreNewMemory(t *testing.T) {
	for name, original := range states(t) {
		for _, p := range queuedAndRefused() {
			checkMemory(t, name+": Queue", original, func(a api.Arq, p api.Packet) (api.Arq, api.Packet) {
				s, _ := arq.Queue(a, p)
				return s, api.Packet{}
			}, p)
		}
		checkMemory(t, name+": Send", original, func(a api.Arq, p api.Packet) (api.Arq, api.Packet) {
			s, q := arq.Send(a)
			return s, q.Packet
		}, X)
		for i := range 4 {
			for _, p := range []api.Packet{X, blank, packet(0, 1)} {
				checkMemory(t, name+": Take", original, func(a api.Arq, p api.Packet) (api.Arq, api.Packet) {
					s, got, _, _ := arq.Take(a, pdu(i%2, i/2, 0, p))
					return s, got
				}, p)
			}
		}
	}
}

// queuedAndRefused returns packets that Queue takes and ones that it refuses.
func queuedAndRefused() []api.Packet {
	return []api.Packet{X, packet(api.LLStart, fill(251)...), blank, packet(api.LLStart, fill(252)...), packet(0, 1)}
}

// checkMemory checks that a call changes neither the side nor the packet, nor what lies behind their lists, and that nothing of its results shares memory with them or with another part of the results.
func checkMemory(t *testing.T, name string, original api.Arq, do func(a api.Arq, p api.Packet) (api.Arq, api.Packet), p api.Packet) {
	t.Helper()
	a, arg := roomy(original), roomyPacket(p)
	beforeQueue, beforePayload := whole(api.Arq{Queue: a.Queue[:cap(a.Queue)]}), slices.Clone(arg.Payload[:cap(arg.Payload)])
	unchanged := func() bool {
		return same(api.Arq{Queue: a.Queue[:cap(a.Queue)]}, beforeQueue) && bytes.Equal(arg.Payload[:cap(arg.Payload)], beforePayload)
	}
	s, got := do(a, arg)
	if !unchanged() {
		t.Errorf("%s: the arguments became %v and %v", name, a, arg)
	}
	parts := append(slices.Clone(s.Queue), got)
	for i := range parts {
		before := make([][]byte, len(parts))
		for j, part := range parts {
			before[j] = slices.Clone(part.Payload)
		}
		spoil(parts[i].Payload)
		for j, part := range parts {
			if j != i && !bytes.Equal(part.Payload, before[j]) {
				t.Errorf("%s: the payloads %d and %d share memory", name, i, j)
			}
		}
	}
	queue := s.Queue[:cap(s.Queue)]
	for i := range queue {
		spoil(queue[i].Payload)
		queue[i] = api.Packet{LLID: 99}
	}
	if !unchanged() {
		t.Errorf("%s: the arguments became %v and %v with the results", name, a, arg)
	}
}

func TestR5EarlierSidesStay(t *testing.T) {
	random := rand.New(rand.NewSource(5))
	sides, copies := []api.Arq{arq.New()}, []api.Arq{arq.New()}
	for range 2000 {
		a := sides[random.Intn(len(sides))]
		switch random.Intn(3) {
		case 0:
			a, _ = arq.Queue(a, validPacket(random))
		case 1:
			a, _ = arq.Send(a)
		case 2:
			a, _, _, _ = arq.Take(a, somePDU(random))
		}
		sides, copies = append(sides, a), append(copies, whole(a))
	}
	for i := range sides {
		if !same(sides[i], copies[i]) {
			t.Fatalf("the side %v became %v", copies[i], sides[i])
		}
	}
}

// states returns sides in all combinations of sequence bits, open packets and short queues, and a full one, with names; all of them come from the functions of the layer.
func states(t *testing.T) map[string]api.Arq {
	t.Helper()
	l := map[string]api.Arq{}
	var explore func(a api.Arq, name string)
	explore = func(a api.Arq, name string) {
		if len(name) > 6 {
			return
		}
		l["after "+name] = a
		if len(a.Queue) < 3 {
			explore(queued(t, a, []api.Packet{X, Y, Z}[len(a.Queue)]), name+"q")
		}
		if !a.Open {
			explore(sent(a), name+"s")
		}
		acknowledged, _, _, acked := arq.Take(a, pdu(1-a.NESN, 1-a.SN, 0, blank))
		if acked {
			explore(acknowledged, name+"a")
		}
		fresh, _, _, _ := arq.Take(a, pdu(a.NESN, a.SN, 0, Z))
		explore(fresh, name+"t")
	}
	explore(arq.New(), "")
	full := arq.New()
	for n := range api.MaxQueue {
		full = queued(t, full, packet(api.LLStart, byte(n)))
	}
	l["full"], l["full and open"] = full, sent(full)
	return l
}

// queued returns a side with one more packet.
func queued(t *testing.T, a api.Arq, p api.Packet) api.Arq {
	t.Helper()
	a, e := arq.Queue(a, p)
	if e != api.OK {
		t.Fatalf("Queue(%v): %v", p, e)
	}
	return a
}

// sent returns a side that sent.
func sent(a api.Arq) api.Arq {
	a, _ = arq.Send(a)
	return a
}

// someSide returns a random side.
func someSide(t *testing.T, random *rand.Rand) api.Arq {
	t.Helper()
	a := arq.New()
	for range random.Intn(20) {
		switch random.Intn(3) {
		case 0:
			a = queued(t, a, validPacket(random))
		case 1:
			a, _ = arq.Send(a)
		case 2:
			a, _, _, _ = arq.Take(a, somePDU(random))
		}
	}
	return a
}

// validPacket returns a random packet that can be queued.
func validPacket(random *rand.Rand) api.Packet {
	n := 1 + random.Intn(6)
	if random.Intn(10) == 0 {
		n = 200 + random.Intn(52)
	}
	b := make([]byte, n)
	random.Read(b)
	return packet(1+random.Intn(3), b...)
}

// somePacket returns a random packet, often one that is refused.
func somePacket(random *rand.Rand) api.Packet {
	switch random.Intn(8) {
	case 0:
		return packet(random.Intn(5)-1, fill(random.Intn(2)*(250+random.Intn(8)))...)
	case 1:
		return packet(otherNumbers[random.Intn(len(otherNumbers))], 1)
	}
	return validPacket(random)
}

// somePDU returns a random PDU, which is sometimes not valid.
func somePDU(random *rand.Rand) api.DataPDU {
	p := pdu(random.Intn(2), random.Intn(2), random.Intn(2), validPacket(random))
	switch random.Intn(12) {
	case 0, 1, 2:
		p.Packet = blank
	case 3:
		p.Packet = somePacket(random)
	case 4:
		p.SN = otherNumbers[random.Intn(len(otherNumbers))]
	case 5:
		p.NESN = otherNumbers[random.Intn(len(otherNumbers))]
	case 6:
		p.MD = otherNumbers[random.Intn(len(otherNumbers))]
	}
	return p
}

func packet(llid int, payload ...byte) api.Packet {
	return api.Packet{LLID: llid, Payload: payload}
}

func pdu(sn, nesn, md int, p api.Packet) api.DataPDU {
	return api.DataPDU{SN: sn, NESN: nesn, MD: md, Packet: p}
}

func bit(on bool) int {
	if on {
		return 1
	}
	return 0
}

// fill returns n bytes that are not zero.
func fill(n int) []byte {
	return bytes.Repeat([]byte{0xa5}, n)
}

// whole returns a side with lists of its own.
func whole(a api.Arq) api.Arq {
	a.Queue = slices.Clone(a.Queue)
	for i, p := range a.Queue {
		a.Queue[i].Payload = slices.Clone(p.Payload)
	}
	return a
}

// roomy returns a side with lists of its own, which have room for more elements.
func roomy(a api.Arq) api.Arq {
	l := make([]api.Packet, len(a.Queue)+3)
	for i := range l {
		l[i] = packet(77, 78, 79)
	}
	for i, p := range a.Queue {
		l[i] = roomyPacket(p)
	}
	a.Queue = l[:len(a.Queue)]
	return a
}

// roomyPacket returns a packet with a payload of its own, which has room for more bytes.
func roomyPacket(p api.Packet) api.Packet {
	b := append(slices.Clone(p.Payload), 77, 78, 79)
	p.Payload = b[:len(p.Payload)]
	return p
}

// spoil changes all memory of b, also if it did before.
func spoil(b []byte) {
	b = b[:cap(b)]
	for i := range b {
		b[i] += 99
	}
}

// same reports whether two sides are equal; empty lists are, nil or not.
func same(a, b api.Arq) bool {
	if !samePackets(a.Queue, b.Queue) {
		return false
	}
	a.Queue, b.Queue = nil, nil
	return reflect.DeepEqual(a, b)
}

func samePackets(l, m []api.Packet) bool {
	return slices.EqualFunc(l, m, samePacket)
}

func samePacket(p, q api.Packet) bool {
	return p.LLID == q.LLID && bytes.Equal(p.Payload, q.Payload)
}

func samePDU(p, q api.DataPDU) bool {
	return p.SN == q.SN && p.NESN == q.NESN && p.MD == q.MD && samePacket(p.Packet, q.Packet)
}

func zero(p api.Packet) bool {
	return p.LLID == 0 && len(p.Payload) == 0
}
