package link_test

import (
	"bytes"
	"encoding/hex"
	"fmt"
	"reflect"
	"slices"
	"testing"

	"wireless/api"
	"wireless/ctrlpdu"
	"wireless/encrypt"
	"wireless/link"
)

// The session with which the vectors were computed, apart from the program.
func vectorSession(role int) api.Session {
	s := encrypt.Turn(encrypt.New(role, 0x123456789abcdef0, 0x1111222233334444, 0x5555666677778888), true, true)
	s.Tx, s.Rx = 3, 3
	return s
}

func unhex(t *testing.T, s string) []byte {
	t.Helper()
	b, e := hex.DecodeString(s)
	if e != nil {
		t.Fatal(e)
	}
	return b
}

// sends checks what a side sends.
func sends(t *testing.T, l api.Link, want string) api.Link {
	t.Helper()
	s, b := send(t, l)
	if hex.EncodeToString(b) != want {
		t.Errorf("%+v sends %x, want %s", l, b, want)
	}
	return s
}

func TestP30_4SendVectors(t *testing.T) {
	for _, role := range []int{api.Central, api.Peripheral} {
		l := fresh(t, role, 0)
		sends(t, l, "38353cd5ec")
		sends(t, done(t, l, everything(api.ActPing)), "3a349102e48f")
		two := done(t, done(t, l, sending(api.LLStart, 1, 2, 3)), sending(api.LLStart, 4))
		sends(t, two, "2b3682af88d7e467")
		one := done(t, l, sending(api.LLStart, 1, 2, 3))
		one.Event, one.Last, one.Arq.SN, one.Arq.NESN = 1, 7, 1, 1
		sends(t, one, "3f124994741b0121")
	}
	c := done(t, fresh(t, api.Central, 0), sending(api.LLStart, 1, 2, 3))
	c.Session, c.Arq.SN = vectorSession(api.Central), 1
	sends(t, c, "333212b0be00e30046aef076")
	p := done(t, fresh(t, api.Peripheral, 0), sending(api.LLStart, 1, 2, 3))
	p.Session = vectorSession(api.Peripheral)
	sends(t, p, "3b32c20740ea17e20f93c02d")
	p.Session.TxOn = false
	plain := read(t, p, second(send(t, p)))
	if !bytes.Equal(plain.Packet.Payload, fill(3)) {
		t.Errorf("with TxOn off, %+v is sent", plain)
	}
}

// second returns the second one of two values.
func second[A, B any](_ A, b B) B {
	return b
}

func TestP30_4SendChangesTheQueueAndMore(t *testing.T) {
	l := fresh(t, api.Central, 0)
	s, _ := send(t, l)
	expect(t, "a side that sent an empty packet", s, changed(l, func(l *api.Link) { l.Arq.Open, l.Arq.Empty = true, true }))
	// An empty packet is open, and another one waits behind it.
	s, b := send(t, done(t, s, sending(api.LLStart, 7)))
	if p := read(t, s, b); p.MD != 1 || p.Packet.LLID != api.LLContinue || !s.More {
		t.Errorf("sent %+v, More %v", p, s.More)
	}
	s = done(t, done(t, l, sending(api.LLStart, 7)), sending(api.LLContinue, 8))
	s, b = send(t, s)
	if p := read(t, s, b); p.MD != 1 || !s.More || len(s.Arq.Queue) != 2 || !s.Arq.Open || s.Arq.Empty {
		t.Errorf("sent %+v, then %+v", p, s)
	}
	s.Arq.Queue = s.Arq.Queue[:1]
	s, b = send(t, s)
	if p := read(t, s, b); p.MD != 0 || s.More {
		t.Errorf("sent %+v, More %v", p, s.More)
	}
}

func TestP30_4NothingIsSentAfterTheEnd(t *testing.T) {
	l := changed(done(t, fresh(t, api.Central, 0), everything(api.ActPing)), func(l *api.Link) { l.Reason = api.ReasonUser })
	s, b := send(t, l)
	if len(b) > 0 {
		t.Errorf("sent %x", b)
	}
	expect(t, "the side that has ended", s, l)
}

// kindsOf returns the kinds of control PDUs.
func kindsOf(l []api.Control) []int {
	var kinds []int
	for _, c := range l {
		kinds = append(kinds, c.Kind)
	}
	return kinds
}

// queuedKinds returns the kinds of the control PDUs in the queue, with -1 for other packets.
func queuedKinds(t *testing.T, l api.Link) []int {
	t.Helper()
	var kinds []int
	for _, p := range l.Arq.Queue {
		c, e := ctrlpdu.Decode(p.Payload)
		switch {
		case p.LLID != api.LLControl:
			kinds = append(kinds, -1)
		case e != api.OK:
			t.Fatalf("%+v: %v", p, e)
		default:
			kinds = append(kinds, c.Kind)
		}
	}
	return kinds
}

// commands are control PDUs of several kinds.
func commands() []api.Control {
	return []api.Control{
		{Kind: api.CtlPing}, {Kind: api.CtlReject, Rejected: 9}, {Kind: api.CtlEncAnswer, Salt: 1}, {Kind: api.CtlTerminate, Reason: 19},
		{Kind: api.CtlStart}, {Kind: api.CtlUnknown, Rejected: 99}, {Kind: api.CtlStartAnswer}, {Kind: api.CtlEncrypt, Salt: 3}, {Kind: api.CtlPingAnswer},
		{Kind: api.CtlFeatures}, {Kind: api.CtlFeatAnswer}, {Kind: api.CtlVersion}, {Kind: api.CtlLength, Length: 27}, {Kind: api.CtlLenAnswer, Length: 27},
		{Kind: api.CtlMap, Map: 3}, {Kind: api.CtlUpdate, Update: updates[0]}, {Kind: api.CtlParams, Update: updates[0]},
	}
}

func TestP30_4ControlPDUsAreMoved(t *testing.T) {
	for crypt := range 5 {
		l := changed(fresh(t, api.Peripheral, 0), func(l *api.Link) {
			l.Commands, l.Procs.Crypt = commands(), crypt
			l.Arq.Queue = []api.Packet{{LLID: api.LLStart, Payload: fill(1)}}
		})
		moved, left := kindsOf(commands()), []int(nil)
		if crypt == api.CryptAsked || crypt == api.CryptSalted || crypt == api.CryptStarted {
			moved = []int{api.CtlReject, api.CtlEncAnswer, api.CtlStart, api.CtlStartAnswer, api.CtlEncrypt}
			left = []int{api.CtlPing, api.CtlTerminate, api.CtlUnknown, api.CtlPingAnswer, api.CtlFeatures, api.CtlFeatAnswer, api.CtlVersion, api.CtlLength, api.CtlLenAnswer, api.CtlMap, api.CtlUpdate, api.CtlParams}
		}
		s, _ := send(t, l)
		if got := queuedKinds(t, s); !slices.Equal(got, append([]int{-1}, moved...)) {
			t.Errorf("in the phase %d the queue is %v, want %v", crypt, got, moved)
		}
		if got := kindsOf(s.Commands); !slices.Equal(got, left) {
			t.Errorf("in the phase %d %v wait, want %v", crypt, got, left)
		}
	}
}

func TestP30_4ControlPDUsNeedRoom(t *testing.T) {
	for room := range 5 {
		l := full(t, fresh(t, api.Central, 0))
		l.Arq.Queue = l.Arq.Queue[room:]
		l.Commands = commands()
		s, _ := send(t, l)
		if got := queuedKinds(t, s); len(got) != 64 || !slices.Equal(got[64-room:], kindsOf(commands())[:room]) {
			t.Errorf("with room for %d the queue is %v", room, got)
		}
		if got := kindsOf(s.Commands); !slices.Equal(got, kindsOf(commands())[room:]) {
			t.Errorf("with room for %d %v wait", room, got)
		}
		// While encryption is being started, the kinds that stay need no room.
		l.Procs.Crypt = api.CryptSalted
		s, _ = send(t, l)
		starting := []int{api.CtlReject, api.CtlEncAnswer, api.CtlStart, api.CtlStartAnswer, api.CtlEncrypt}
		if got := queuedKinds(t, s); !slices.Equal(got[64-room:], starting[:room]) || len(s.Commands) != len(commands())-room {
			t.Errorf("with room for %d, and quiet, the queue is %v", room, got)
		}
	}
}

func TestP30_4RefusedControlPDUsAreDropped(t *testing.T) {
	l := changed(fresh(t, api.Central, 0), func(l *api.Link) {
		l.Commands = []api.Control{{Kind: api.CtlPing}, {Kind: 99}, {Kind: api.CtlPing, Length: 3}, {Kind: api.CtlStart}}
	})
	s, _ := link.Send(l)
	if got := queuedKinds(t, s); !slices.Equal(got, []int{api.CtlPing, api.CtlStart}) || len(s.Commands) > 0 {
		t.Errorf("the queue is %v, and %v wait", got, s.Commands)
	}
}

// pdu returns a PDU.
func pdu(sn, nesn, md, llid int, payload ...byte) api.DataPDU {
	return api.DataPDU{SN: sn, NESN: nesn, MD: md, Packet: api.Packet{LLID: llid, Payload: payload}}
}

// control returns a PDU with a control PDU.
func control(t *testing.T, sn, nesn int, c api.Control) api.DataPDU {
	t.Helper()
	b, e := ctrlpdu.Encode(c)
	if e != api.OK {
		t.Fatalf("%+v: %v", c, e)
	}
	return pdu(sn, nesn, 0, api.LLControl, b...)
}

// takes lets a side receive a PDU at a time of no interest, and checks what it reports.
func takes(t *testing.T, l api.Link, p api.DataPDU, reports ...api.Indication) api.Link {
	t.Helper()
	s, told, on := receive(t, l, onAir(l, p), false, 12000)
	if !reflect.DeepEqual(list(told), list(reports)) {
		t.Errorf("with %+v the side reports %+v, want %+v", p, told, reports)
	}
	if on != (p.MD == 1 || l.More) {
		t.Errorf("with %+v the event goes on: %v", p, on)
	}
	return s
}

// heard returns what becomes of a side that received a PDU whose packet is not new and that acknowledges nothing.
func heard(l api.Link) api.Link {
	return changed(l, func(l *api.Link) {
		l.Got, l.Good, l.Begun, l.Heard = true, true, true, 12000
		l.Tallies[7].Good++
	})
}

func TestP30_5TheFirstPacketIsTheAnchor(t *testing.T) {
	for _, role := range []int{api.Central, api.Peripheral} {
		for _, first := range []bool{false, true} {
			for _, good := range []bool{false, true} {
				l := fresh(t, role, 0)
				b := onAir(l, pdu(1, 0, 0, api.LLContinue))
				if !good {
					b[1] ^= 4
				}
				s, _, _ := receive(t, l, b, first, 12345)
				if !s.Got || s.Good != good || s.Begun != good {
					t.Errorf("after a packet: %+v", s)
				}
				if moved := first && role == api.Peripheral; moved && (s.Anchor != 12345 || s.Sync != 12345 || s.Size != 0) || !moved && (s.Anchor != l.Anchor || s.Sync != end || s.Size != l.Size) {
					t.Errorf("role %d, first %v: Anchor %d, Sync %d, Size %d", role, first, s.Anchor, s.Sync, s.Size)
				}
			}
		}
	}
}

func TestP30_5BrokenPackets(t *testing.T) {
	l := done(t, done(t, fresh(t, api.Central, 0), sending(api.LLStart, 7)), sending(api.LLStart, 8))
	l, _ = send(t, l)
	if !l.More {
		t.Fatal("More is not set")
	}
	bad := changed(l, func(l *api.Link) { l.Got = true; l.Tallies[7].Bad++ })
	whole := onAir(l, pdu(0, 1, 1, api.LLStart, 7))
	for i := range 8 * len(whole) {
		b := bytes.Clone(whole)
		b[i/8] ^= 1 << (i % 8)
		s, told, on := receive(t, l, b, true, 12000)
		if len(told) > 0 || on {
			t.Errorf("without bit %d: %+v, %v", i, told, on)
		}
		expect(t, fmt.Sprintf("the side without bit %d", i), s, bad)
	}
	for n := range len(whole) {
		s, told, on := receive(t, l, whole[:n], true, 12000)
		if len(told) > 0 || on {
			t.Errorf("with %d bytes: %+v, %v", n, told, on)
		}
		expect(t, fmt.Sprintf("the side with %d bytes", n), s, bad)
	}
	other := changed(l, func(l *api.Link) { l.Params.Init++ })
	s, _, _ := receive(t, l, onAir(other, pdu(0, 1, 1, api.LLStart, 7)), true, 12000)
	expect(t, "a packet with another initial value", s, bad)
	other = changed(l, func(l *api.Link) { l.Last++ })
	s, _, _ = receive(t, l, onAir(other, pdu(0, 1, 1, api.LLStart, 7)), true, 12000)
	expect(t, "a packet of another channel", s, bad)
}

func TestP30_5BytesThatAreNoPDU(t *testing.T) {
	l := done(t, done(t, fresh(t, api.Central, 0), sending(api.LLStart, 7)), sending(api.LLStart, 8))
	l, _ = send(t, l)
	for _, b := range [][]byte{{}, {1}, {33, 0}, {0, 0}, {2, 0}, {2, 2, 1}, {2, 1, 1, 1}, {0x92, 1, 1}} {
		air := onAirBytes(l, b)
		s, told, on := receive(t, l, air, true, 12000)
		if len(told) > 0 || on {
			t.Errorf("with %x: %+v, %v", b, told, on)
		}
		expect(t, fmt.Sprintf("the side with %x", b), s, changed(l, func(l *api.Link) { l.Got = true }))
	}
}

func TestP30_5Vectors(t *testing.T) {
	report := api.Indication{Kind: api.IndPacket, Packet: api.Packet{LLID: api.LLStart, Payload: fill(3)}}
	for _, role := range []int{api.Central, api.Peripheral} {
		l := fresh(t, role, 0)
		s, told, on := receive(t, l, unhex(t, "2b3682af88d7e467"), false, 12000)
		if !on || !reflect.DeepEqual(told, []api.Indication{report}) {
			t.Errorf("the role %d reports %+v, and the event goes on: %v", role, told, on)
		}
		expect(t, "the side", s, changed(heard(l), func(l *api.Link) { l.Arq.NESN, l.Arq.Taken = 1, 1 }))
	}
	c := changed(fresh(t, api.Central, 0), func(l *api.Link) { l.Session = vectorSession(api.Central) })
	s, told, on := receive(t, c, unhex(t, "3b32c20740ea17e20f93c02d"), false, 12000)
	if on || !reflect.DeepEqual(told, []api.Indication{report}) {
		t.Errorf("the central reports %+v, and the event goes on: %v", told, on)
	}
	expect(t, "the central", s, changed(heard(c), func(l *api.Link) { l.Arq.NESN, l.Arq.Taken, l.Session.Rx = 1, 1, 4 }))
	p := changed(fresh(t, api.Peripheral, 0), func(l *api.Link) { l.Session, l.Arq.NESN = vectorSession(api.Peripheral), 1 })
	s, told, _ = receive(t, p, unhex(t, "333212b0be00e30046aef076"), false, 12000)
	if !reflect.DeepEqual(told, []api.Indication{report}) {
		t.Errorf("the peripheral reports %+v", told)
	}
	expect(t, "the peripheral", s, changed(heard(p), func(l *api.Link) { l.Arq.NESN, l.Arq.Taken, l.Session.Rx = 0, 1, 4 }))
}

func TestP30_5PacketsAreReported(t *testing.T) {
	l := changed(fresh(t, api.Peripheral, 0), func(l *api.Link) { l.Event, l.Last = 37, 0 })
	for _, p := range []api.DataPDU{pdu(0, 0, 0, api.LLStart, 7), pdu(0, 0, 1, api.LLContinue, fill(255)...), pdu(0, 0, 0, api.LLContinue, 1)} {
		s := takes(t, l, p, api.Indication{Kind: api.IndPacket, Event: 37, Packet: p.Packet})
		expect(t, "the side", s, changed(heard(l), func(l *api.Link) { l.Arq.NESN, l.Arq.Taken = 1, 1 }))
		// A repetition is not reported.
		s = takes(t, s, p)
		expect(t, "the side after a repetition", s, changed(heard(heard(l)), func(l *api.Link) { l.Arq.NESN, l.Arq.Taken = 1, 1 }))
	}
	s := takes(t, l, pdu(0, 0, 0, api.LLContinue))
	expect(t, "the side after an empty packet", s, changed(heard(l), func(l *api.Link) { l.Arq.NESN = 1 }))
}

func TestP30_5MoreDataLetsTheEventGoOn(t *testing.T) {
	for bits := range 8 {
		more, md, sn := bits&1 == 1, bits>>1&1, bits>>2
		l := changed(fresh(t, api.Central, 0), func(l *api.Link) { l.More = more })
		if _, _, on := receive(t, l, onAir(l, pdu(sn, 0, md, api.LLStart, 7)), false, 12000); on != (more || md == 1) {
			t.Errorf("MD %d, More %v: the event goes on: %v", md, more, on)
		}
	}
}

func TestP30_5EncryptedPackets(t *testing.T) {
	for _, role := range []int{api.Central, api.Peripheral} {
		l := changed(fresh(t, role, 0), func(l *api.Link) { l.Session, l.More = vectorSession(role), true })
		other := vectorSession(1 - role)
		seal := func(p api.DataPDU) api.DataPDU {
			q, _ := encrypt.Seal(other, p)
			return q
		}
		p := pdu(0, 0, 0, api.LLStart, 7)
		s := takes(t, l, seal(p), api.Indication{Kind: api.IndPacket, Packet: p.Packet})
		taken := changed(heard(l), func(l *api.Link) { l.Arq.NESN, l.Arq.Taken, l.Session.Rx = 1, 1, 4 })
		expect(t, "the side", s, taken)
		// A repetition, sealed or not, is not opened, and an empty packet is not encrypted.
		for _, q := range []api.DataPDU{seal(p), p} {
			expect(t, "the side after a repetition", takes(t, s, q), changed(taken, func(l *api.Link) { l.Tallies[7].Good = 2 }))
		}
		s = takes(t, l, pdu(0, 0, 0, api.LLContinue))
		expect(t, "the side after an empty packet", s, changed(heard(l), func(l *api.Link) { l.Arq.NESN = 1 }))
		// What is not authentic ends the side before anything is taken.
		other.Tx++
		l.Arq.Open, l.Arq.Empty = true, true
		for _, q := range []api.DataPDU{p, seal(pdu(0, 1, 1, api.LLStart, 7)), pdu(0, 1, 1, api.LLControl, fill(4)...), pdu(0, 1, 1, api.LLStart, fill(255)...)} {
			s, told, on := receive(t, l, onAir(l, q), false, 12000)
			if on || !reflect.DeepEqual(told, []api.Indication{{Kind: api.IndEnded, Number: api.ReasonIntegrity}}) {
				t.Errorf("with %+v: %+v, %v", q, told, on)
			}
			expect(t, "the side that has ended", s, changed(heard(l), func(l *api.Link) { l.Reason = api.ReasonIntegrity }))
		}
		l.Session.RxOn = false
		s = takes(t, l, pdu(0, 0, 0, api.LLStart, fill(9)...), api.Indication{Kind: api.IndPacket, Packet: api.Packet{LLID: api.LLStart, Payload: fill(9)}})
		expect(t, "the side that opens nothing", s, changed(heard(l), func(l *api.Link) { l.Arq.NESN, l.Arq.Taken = 1, 1 }))
	}
}

func TestP30_5Acknowledgements(t *testing.T) {
	for _, tx := range []bool{false, true} {
		for _, rx := range []bool{false, true} {
			l := fresh(t, api.Peripheral, 0)
			l.Session = encrypt.Turn(vectorSession(api.Peripheral), tx, rx)
			l, _ = send(t, l)
			s := takes(t, l, pdu(1, 1, 0, api.LLContinue))
			expect(t, "an empty packet was acknowledged", s, changed(heard(l), func(l *api.Link) { l.Acked, l.Arq.SN, l.Arq.Open, l.Arq.Empty = true, 1, false, false }))
			s = takes(t, l, pdu(1, 0, 0, api.LLContinue))
			expect(t, "nothing was acknowledged", s, heard(l))
			l.Arq.Open, l.Arq.Empty = false, false
			l, _ = send(t, done(t, l, sending(api.LLStart, 7)))
			s = takes(t, l, pdu(1, 1, 0, api.LLContinue))
			want := changed(heard(l), func(l *api.Link) {
				l.Acked, l.Arq = true, api.Arq{SN: 1, Acked: 1}
				if tx {
					l.Session.Tx = 4
				}
			})
			expect(t, "a packet was acknowledged", s, want)
		}
	}
	// Nothing is open.
	l := changed(fresh(t, api.Peripheral, 0), func(l *api.Link) { l.Session = vectorSession(api.Peripheral) })
	expect(t, "nothing was sent", takes(t, l, pdu(1, 1, 0, api.LLContinue)), heard(l))
}

func TestP30_5AcknowledgedControlPDUs(t *testing.T) {
	// The side learns that a change was told, and that it may end.
	l := done(t, fresh(t, api.Central, 0), everything(api.ActMap))
	l, _ = send(t, l)
	if s := takes(t, l, pdu(1, 1, 0, api.LLContinue)); !s.Procs.Told || l.Procs.Told {
		t.Errorf("a change was acknowledged: %+v", s)
	}
	l = done(t, fresh(t, api.Peripheral, 0), everything(api.ActTerminate))
	l, _ = send(t, l)
	if s := takes(t, l, pdu(1, 1, 0, api.LLContinue)); s.Procs.Ended != api.ReasonHost || s.Reason != api.ReasonNone {
		t.Errorf("the end was acknowledged: %+v", s)
	}
	// The acknowledgement of CtlStart turns encryption on, which is not yet counted.
	for _, rx := range []bool{false, true} {
		l = fresh(t, api.Peripheral, 0)
		l.Session = encrypt.Turn(vectorSession(api.Peripheral), false, rx)
		l.Commands = []api.Control{{Kind: api.CtlEncAnswer}, {Kind: api.CtlStart}}
		l, _ = send(t, l)
		l = takes(t, l, pdu(1, 1, 0, api.LLContinue))
		if want := encrypt.Turn(vectorSession(api.Peripheral), false, rx); l.Session != want {
			t.Errorf("after the acknowledgement of CtlEncAnswer: %+v", l.Session)
		}
		l, _ = send(t, l)
		l = takes(t, l, pdu(1, 0, 0, api.LLContinue))
		if want := encrypt.Turn(vectorSession(api.Peripheral), true, rx); l.Session != want {
			t.Errorf("after the acknowledgement of CtlStart: %+v", l.Session)
		}
	}
	// A packet of the upper layers with the same bytes does not.
	l = done(t, fresh(t, api.Peripheral, 0), sending(api.LLStart, api.CtlStart))
	l, _ = send(t, l)
	if s := takes(t, l, pdu(1, 1, 0, api.LLContinue)); s.Session.TxOn {
		t.Errorf("encryption is on: %+v", s.Session)
	}
}

func TestP30_5ControlPDUsAreHandled(t *testing.T) {
	l := changed(fresh(t, api.Central, 3), func(l *api.Link) {
		l.Event, l.Commands = 37, []api.Control{{Kind: api.CtlVersion, Version: 11}}
	})
	taken := changed(heard(l), func(l *api.Link) { l.Arq.NESN, l.Arq.Taken = 1, 1 })
	s := takes(t, l, control(t, 0, 0, api.Control{Kind: api.CtlFeatures, Features: 5}), api.Indication{Kind: api.IndFeatures, Event: 37, Number: 5})
	want := changed(taken, func(l *api.Link) {
		l.Procs.Common, l.Procs.Known = 5, true
		l.Commands = append(l.Commands, api.Control{Kind: api.CtlFeatAnswer, Features: 63})
	})
	expect(t, "after CtlFeatures", s, want)
	expect(t, "after a repetition", takes(t, s, control(t, 0, 0, api.Control{Kind: api.CtlPing})), heard(s))
	// The time of a control PDU is that at which its packet began.
	s = takes(t, l, control(t, 0, 0, api.Control{Kind: api.CtlParams, Update: updates[1]}), api.Indication{Kind: api.IndParams, Event: 37, Update: updates[1]})
	expect(t, "after CtlParams", s, changed(taken, func(l *api.Link) { l.Procs.Other, l.Procs.OtherTime = api.CtlParams, 12000 }))
}

func TestP30_5TheEventOfAControlPDUIsTheCurrentOne(t *testing.T) {
	l := changed(fresh(t, api.Peripheral, 9), func(l *api.Link) { l.Event = 37 })
	for instant, reason := range map[uint16]int{36: api.ReasonInstant, 37: api.ReasonInstant, 38: 0, 40: 0, 100: 0} {
		s := takes(t, l, control(t, 0, 0, api.Control{Kind: api.CtlMap, Map: 33, Instant: instant}))
		if s.Procs.Ended != reason || s.Reason != api.ReasonNone {
			t.Errorf("the instant %d: %+v", instant, s.Procs)
		}
	}
}

func TestP30_5ControlPDUsThatAreNotUnderstood(t *testing.T) {
	l := fresh(t, api.Peripheral, 0)
	taken := changed(heard(l), func(l *api.Link) { l.Arq.NESN, l.Arq.Taken = 1, 1 })
	for _, kind := range []byte{10, 11, 14, 16, 17, 22, 99, 255} {
		for _, n := range []int{1, 2, 30} {
			b := make([]byte, n)
			b[0] = kind
			s := takes(t, l, pdu(0, 0, 0, api.LLControl, b...))
			expect(t, "after an unknown kind", s, changed(taken, func(l *api.Link) {
				l.Commands = []api.Control{{Kind: api.CtlUnknown, Rejected: int(kind)}}
			}))
		}
	}
	for _, b := range [][]byte{{api.CtlFeatures}, {api.CtlPing, 0}, {api.CtlLength, 26}, {api.CtlMap, 1, 0, 0, 0, 0, 9, 9}, {api.CtlUpdate}} {
		expect(t, fmt.Sprintf("after %x", b), takes(t, l, pdu(0, 0, 0, api.LLControl, b...)), taken)
	}
}

func TestP30_5TheCentralStartsEncryption(t *testing.T) {
	l := done(t, fresh(t, api.Central, 0), api.Act{Kind: api.ActEncrypt, Key: 5, Number: 9})
	l, _ = send(t, l)
	l = takes(t, l, control(t, 0, 1, api.Control{Kind: api.CtlEncAnswer, Salt: 0x5555666677778888}))
	if l.Session != (api.Session{}) || l.Procs.Crypt != api.CryptSalted {
		t.Fatalf("after CtlEncAnswer: %+v", l)
	}
	s := takes(t, l, control(t, 1, 1, api.Control{Kind: api.CtlStart}))
	want := encrypt.Turn(encrypt.New(api.Central, 5, seed, 0x5555666677778888), true, true)
	if s.Session != want || !slices.Equal(kindsOf(s.Commands), []int{api.CtlStartAnswer}) {
		t.Errorf("after CtlStart: %+v", s)
	}
	// The counters begin at 0, whatever the session was before.
	l.Session = encrypt.Turn(vectorSession(api.Central), true, false)
	if s = takes(t, l, control(t, 1, 1, api.Control{Kind: api.CtlStart})); s.Session != want {
		t.Errorf("after CtlStart: %+v", s.Session)
	}
	l.Session = api.Session{}
	for crypt := range 5 {
		l.Procs.Crypt = crypt
		on := crypt == api.CryptSalted || crypt == api.CryptStarted
		if s := takes(t, l, control(t, 1, 1, api.Control{Kind: api.CtlStart})); s.Session.TxOn != on {
			t.Errorf("CtlStart in the phase %d: %+v", crypt, s.Session)
		}
		p := changed(l, func(l *api.Link) { l.Role = api.Peripheral })
		if s := takes(t, p, control(t, 1, 1, api.Control{Kind: api.CtlStart})); s.Session != l.Session {
			t.Errorf("CtlStart at a peripheral in the phase %d: %+v", crypt, s.Session)
		}
	}
	l.Procs.Crypt = api.CryptStarted
	if s := takes(t, l, control(t, 1, 1, api.Control{Kind: api.CtlPing})); s.Session != l.Session {
		t.Errorf("after CtlPing: %+v", s.Session)
	}
}

func TestP30_5NothingIsReceivedAfterTheEnd(t *testing.T) {
	l := changed(fresh(t, api.Peripheral, 0), func(l *api.Link) { l.Reason, l.More = api.ReasonUser, true })
	s, told, on := receive(t, l, onAir(l, pdu(0, 1, 1, api.LLStart, 7)), true, 12000)
	if on || len(told) > 0 {
		t.Errorf("%+v, %v", told, on)
	}
	expect(t, "the side that has ended", s, l)
}
