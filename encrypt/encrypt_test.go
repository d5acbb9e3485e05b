package encrypt_test

import (
	"bytes"
	"fmt"
	"math"
	"math/rand"
	"reflect"
	"slices"
	"testing"

	"wireless/api"
	"wireless/datapdu"
	"wireless/encrypt"
	"wireless/mac"
)

// What the vectors were computed with, apart from the program.
const (
	longTerm   = api.Key(0x123456789abcdef0)
	central    = uint64(0x1111222233334444)
	peripheral = uint64(0x5555666677778888)
)

var (
	roles    = []int{math.MinInt, -1, api.Central, api.Peripheral, 2, 3, 257, math.MaxInt}
	kinds    = []int{api.LLContinue, api.LLStart, api.LLControl}
	counters = []uint64{0, 1, 2, 255, 1 << 31, 1<<32 + 1, 1<<63 - 1, 1 << 63, math.MaxUint64 - 1, math.MaxUint64}
	onAndOff = []bool{false, true}
)

// A vector is a payload that was sealed by a side as its packet with a number.
type vector struct {
	role    int
	counter uint64
	llid    int
	plain   []byte
	sealed  []byte
}

var vectors = []vector{
	{api.Central, 0, api.LLStart, []byte{7}, []byte{0x5f, 0x60, 0xba, 0x3f, 0xec}},
	{api.Peripheral, 0, api.LLStart, []byte{7}, []byte{0xbe, 0x80, 0x75, 0x6c, 0xfa}},
	{api.Central, 5, api.LLContinue, []byte("hello, world"), []byte{0x96, 0xc5, 0xaa, 0x7a, 0x4c, 0x11, 0xeb, 0x03, 0x4f, 0xcb, 0xc4, 0xfc, 0x02, 0x33, 0x47, 0xbb}},
	{api.Peripheral, 5, api.LLControl, []byte{6}, []byte{0xa6, 0x6c, 0x8a, 0xb1, 0x16}},
	{api.Peripheral, 1<<63 + 3, api.LLStart, []byte{7}, []byte{0x47, 0xe5, 0x3e, 0xaa, 0x9f}},
}

// session returns a session with both switches on; its role need not be one that New returns.
func session(role int, tx, rx uint64) api.Session {
	s := encrypt.Turn(encrypt.New(role, longTerm, central, peripheral), true, true)
	s.Role, s.Tx, s.Rx = role, tx, rx
	return s
}

func pdu(llid int, payload ...byte) api.DataPDU {
	return api.DataPDU{Packet: api.Packet{LLID: llid, Payload: payload}}
}

// fill returns n bytes, all of them different from their neighbours.
func fill(n int) []byte {
	b := make([]byte, n)
	for i := range b {
		b[i] = byte(i + 1)
	}
	return b
}

func equal(p, q api.DataPDU) bool {
	return p.SN == q.SN && p.NESN == q.NESN && p.MD == q.MD && p.Packet.LLID == q.Packet.LLID && bytes.Equal(p.Packet.Payload, q.Packet.Payload)
}

// fromPeripheral returns 1 if packets of a side come from the peripheral, and otherwise 0.
func fromPeripheral(role int) uint64 {
	if role == api.Peripheral {
		return 1
	}
	return 0
}

// seal returns the PDU that is sent, by the definition.
func seal(s api.Session, p api.DataPDU) (api.DataPDU, api.Errno) {
	if e := datapdu.Check(p); e != api.OK {
		return api.DataPDU{}, e
	}
	if !s.TxOn || p.Packet.LLID == api.LLContinue && len(p.Packet.Payload) == 0 {
		return p, api.OK
	}
	if len(p.Packet.Payload) > 251 {
		return api.DataPDU{}, api.ErrTooLong
	}
	nonce := s.Salt ^ (2*s.Tx + fromPeripheral(s.Role))
	p.Packet.Payload = mac.Seal(s.Key, nonce, []byte{byte(p.Packet.LLID)}, p.Packet.Payload)
	return p, api.OK
}

// open returns the PDU that was meant, by the definition.
func open(s api.Session, p api.DataPDU) (api.DataPDU, api.Errno) {
	if e := datapdu.Check(p); e != api.OK {
		return api.DataPDU{}, e
	}
	if !s.RxOn || p.Packet.LLID == api.LLContinue && len(p.Packet.Payload) == 0 {
		return p, api.OK
	}
	if len(p.Packet.Payload) < 5 {
		return api.DataPDU{}, api.ErrTruncated
	}
	nonce := s.Salt ^ (2*s.Rx + 1 - fromPeripheral(s.Role))
	b, e := mac.Open(s.Key, nonce, []byte{byte(p.Packet.LLID)}, p.Packet.Payload)
	if e != api.OK {
		return api.DataPDU{}, e
	}
	p.Packet.Payload = b
	return p, api.OK
}

func expectSeal(t *testing.T, s api.Session, p, want api.DataPDU, wantE api.Errno) {
	t.Helper()
	if q, e := encrypt.Seal(s, p); !equal(q, want) || e != wantE {
		t.Errorf("Seal(%+v, %+v)\n got %+v, %v\nwant %+v, %v", s, p, q, e, want, wantE)
	}
}

func expectOpen(t *testing.T, s api.Session, p, want api.DataPDU, wantE api.Errno) {
	t.Helper()
	if q, e := encrypt.Open(s, p); !equal(q, want) || e != wantE {
		t.Errorf("Open(%+v, %+v)\n got %+v, %v\nwant %+v, %v", s, p, q, e, want, wantE)
	}
}

// opened returns what a side opens, which must be no error.
func opened(t *testing.T, s api.Session, p api.DataPDU) api.DataPDU {
	t.Helper()
	q, e := encrypt.Open(s, p)
	if e != api.OK {
		t.Fatalf("Open(%+v, %+v): %v", s, p, e)
	}
	return q
}

// sealed returns what a side seals, which must be no error.
func sealed(t *testing.T, s api.Session, p api.DataPDU) api.DataPDU {
	t.Helper()
	q, e := encrypt.Seal(s, p)
	if e != api.OK {
		t.Fatalf("Seal(%+v, %+v): %v", s, p, e)
	}
	return q
}

func TestP29_1NewVector(t *testing.T) {
	want := api.Session{Role: api.Central, Key: 0xe883b91876975684, Salt: 0x444444444444cccc}
	if s := encrypt.New(api.Central, longTerm, central, peripheral); s != want {
		t.Errorf("New of the central = %+v", s)
	}
	want.Role = api.Peripheral
	if s := encrypt.New(api.Peripheral, longTerm, central, peripheral); s != want {
		t.Errorf("New of the peripheral = %+v", s)
	}
}

func TestP29_1NewFollowsTheDefinition(t *testing.T) {
	random := rand.New(rand.NewSource(1))
	for i := range 500 {
		k, c, p := api.Key(random.Uint64()), random.Uint64(), random.Uint64()
		if i%5 == 0 {
			k, c, p = api.Key(i%2), uint64(i%3), uint64(i%7)
		}
		for _, role := range roles {
			want := api.Session{Role: int(fromPeripheral(role)), Key: mac.Derive(k, "session", c, p), Salt: c ^ p}
			if s := encrypt.New(role, k, c, p); s != want {
				t.Fatalf("New(%d, %x, %x, %x) = %+v, want %+v", role, k, c, p, s, want)
			}
		}
	}
}

func TestP29_1TheHalvesHaveAnOrder(t *testing.T) {
	a, b := encrypt.New(api.Central, longTerm, central, peripheral), encrypt.New(api.Central, longTerm, peripheral, central)
	if a.Key == b.Key || a.Salt != b.Salt {
		t.Errorf("with the halves exchanged: %+v and %+v", a, b)
	}
}

func TestP29_2Turn(t *testing.T) {
	for _, role := range roles {
		for _, was := range onAndOff {
			for _, tx := range onAndOff {
				for _, rx := range onAndOff {
					s := api.Session{Role: role, Key: 5, Salt: 6, TxOn: was, RxOn: !was, Tx: 7, Rx: 8}
					want := api.Session{Role: role, Key: 5, Salt: 6, TxOn: tx, RxOn: rx, Tx: 7, Rx: 8}
					if got := encrypt.Turn(s, tx, rx); got != want {
						t.Errorf("Turn(%+v, %v, %v) = %+v", s, tx, rx, got)
					}
				}
			}
		}
	}
}

func TestP29_3SealVectors(t *testing.T) {
	for _, v := range vectors {
		expectSeal(t, session(v.role, v.counter, 99), pdu(v.llid, v.plain...), pdu(v.llid, v.sealed...), api.OK)
	}
}

func TestP29_3SealExamples(t *testing.T) {
	s := session(api.Central, 0, 0)
	if p := sealed(t, s, pdu(api.LLStart, 1)); len(p.Packet.Payload) != 5 {
		t.Errorf("a payload of one byte: %v", p)
	}
	if p := sealed(t, s, pdu(api.LLStart, fill(251)...)); len(p.Packet.Payload) != 255 {
		t.Errorf("a payload of 251 bytes: %v", p)
	}
	expectSeal(t, s, pdu(api.LLStart, fill(252)...), api.DataPDU{}, api.ErrTooLong)
	s.TxOn = false
	expectSeal(t, s, pdu(api.LLStart, fill(252)...), pdu(api.LLStart, fill(252)...), api.OK)
}

// invalid are PDUs that datapdu.Check refuses, with its errors.
var invalid = []struct {
	p api.DataPDU
	e api.Errno
}{
	{api.DataPDU{SN: 2, Packet: api.Packet{LLID: api.LLStart, Payload: fill(5)}}, api.ErrRange},
	{api.DataPDU{NESN: -1, Packet: api.Packet{LLID: api.LLContinue}}, api.ErrRange},
	{api.DataPDU{MD: math.MaxInt}, api.ErrRange},
	{pdu(0, 1, 2, 3, 4, 5), api.ErrKind},
	{pdu(4, 1), api.ErrKind},
	{pdu(257, fill(300)...), api.ErrKind},
	{pdu(api.LLStart), api.ErrInvalid},
	{pdu(api.LLControl), api.ErrInvalid},
	{pdu(api.LLContinue, fill(256)...), api.ErrTooLong},
	{pdu(api.LLControl, fill(1000)...), api.ErrTooLong},
}

func TestP29_3And4ReturnTheErrorOfCheck(t *testing.T) {
	for _, c := range invalid {
		for _, tx := range onAndOff {
			for _, rx := range onAndOff {
				s := encrypt.Turn(session(api.Central, 0, 0), tx, rx)
				expectSeal(t, s, c.p, api.DataPDU{}, c.e)
				expectOpen(t, s, c.p, api.DataPDU{}, c.e)
			}
		}
	}
}

// sizes are numbers of bytes of payloads, with those at which something changes.
var sizes = []int{0, 1, 2, 3, 4, 5, 6, 7, 8, 9, 16, 27, 250, 251, 252, 253, 254, 255, 256}

func TestP29_3SealFollowsTheDefinition(t *testing.T) {
	for _, role := range roles {
		for i, n := range sizes {
			for _, llid := range []int{0, 1, 2, 3, 4} {
				s := session(role, counters[i%len(counters)], counters[(i+3)%len(counters)])
				for _, on := range onAndOff {
					for _, other := range onAndOff {
						s.TxOn, s.RxOn = on, other
						p := pdu(llid, fill(n)...)
						p.SN, p.NESN, p.MD = i%2, i/2%2, i/4%2
						want, e := seal(s, p)
						expectSeal(t, s, p, want, e)
					}
				}
			}
		}
	}
}

func TestP29_3EmptyPacketsAreNotSealed(t *testing.T) {
	for _, role := range roles {
		for bits := range 8 {
			p := api.DataPDU{SN: bits & 1, NESN: bits >> 1 & 1, MD: bits >> 2, Packet: api.Packet{LLID: api.LLContinue}}
			expectSeal(t, session(role, 1, 2), p, p, api.OK)
			expectOpen(t, session(role, 1, 2), p, p, api.OK)
		}
	}
}

func TestP29_3NoncesDifferByCounterAndDirection(t *testing.T) {
	seen := map[string]string{}
	for _, role := range []int{api.Central, api.Peripheral} {
		for _, n := range counters {
			if n >= 1<<63 { // the nonces are those of n - 2^63
				continue
			}
			p := sealed(t, session(role, n, 0), pdu(api.LLStart, fill(8)...))
			key := string(p.Packet.Payload)
			name := fmt.Sprintf("role %d, counter %d", role, n)
			if other, ok := seen[key]; ok {
				t.Errorf("%s and %s seal alike", name, other)
			}
			seen[key] = name
		}
	}
}

func TestP29_4OpenVectors(t *testing.T) {
	for _, v := range vectors {
		expectOpen(t, session(1-v.role, 99, v.counter), pdu(v.llid, v.sealed...), pdu(v.llid, v.plain...), api.OK)
	}
}

func TestP29_4ShortPayloads(t *testing.T) {
	for _, llid := range kinds {
		for n := 1; n < 5; n++ {
			expectOpen(t, session(api.Central, 0, 0), pdu(llid, fill(n)...), api.DataPDU{}, api.ErrTruncated)
			off := encrypt.Turn(session(api.Central, 0, 0), true, false)
			expectOpen(t, off, pdu(llid, fill(n)...), pdu(llid, fill(n)...), api.OK)
		}
		expectOpen(t, session(api.Central, 0, 0), pdu(llid, fill(5)...), api.DataPDU{}, api.ErrAuth)
	}
	// A tag without a byte before it is authentic to mac, but no payload.
	s := session(api.Central, 0, 0)
	nothing := mac.Seal(s.Key, s.Salt^1, []byte{api.LLContinue}, nil)
	expectOpen(t, s, pdu(api.LLContinue, nothing...), api.DataPDU{}, api.ErrTruncated)
}

func TestP29_4WhatWasSealedOtherwiseIsNotAuthentic(t *testing.T) {
	p := sealed(t, session(api.Central, 5, 0), pdu(api.LLStart, fill(20)...))
	good := session(api.Peripheral, 0, 5)
	expectOpen(t, good, p, pdu(api.LLStart, fill(20)...), api.OK)
	for name, change := range map[string]func(s *api.Session, p *api.DataPDU){
		"an earlier counter":  func(s *api.Session, p *api.DataPDU) { s.Rx-- },
		"a later counter":     func(s *api.Session, p *api.DataPDU) { s.Rx++ },
		"the own direction":   func(s *api.Session, p *api.DataPDU) { s.Role = api.Central },
		"another key":         func(s *api.Session, p *api.DataPDU) { s.Key++ },
		"another salt":        func(s *api.Session, p *api.DataPDU) { s.Salt ^= 1 << 63 },
		"another kind":        func(s *api.Session, p *api.DataPDU) { p.Packet.LLID = api.LLControl },
		"another byte":        func(s *api.Session, p *api.DataPDU) { p.Packet.Payload[3] ^= 1 },
		"another tag":         func(s *api.Session, p *api.DataPDU) { p.Packet.Payload[23] ^= 128 },
		"a byte less":         func(s *api.Session, p *api.DataPDU) { p.Packet.Payload = p.Packet.Payload[:23] },
		"a byte more":         func(s *api.Session, p *api.DataPDU) { p.Packet.Payload = append(p.Packet.Payload, 0) },
		"the number of sends": func(s *api.Session, p *api.DataPDU) { s.Tx, s.Rx = s.Rx, s.Tx },
	} {
		s, q := good, p
		q.Packet.Payload = slices.Clone(p.Packet.Payload)
		change(&s, &q)
		if r, e := encrypt.Open(s, q); e != api.ErrAuth || !equal(r, api.DataPDU{}) {
			t.Errorf("%s: %+v, %v", name, r, e)
		}
	}
}

func TestP29_4OpenFollowsTheDefinition(t *testing.T) {
	random := rand.New(rand.NewSource(2))
	for i := range 3000 {
		role, llid := roles[random.Intn(len(roles))], random.Intn(5)
		tx, rx := counters[random.Intn(len(counters))], counters[random.Intn(len(counters))]
		p := pdu(llid, fill(sizes[random.Intn(len(sizes))])...)
		p.SN, p.NESN, p.MD = random.Intn(2), random.Intn(2), random.Intn(2)
		if i%2 == 0 { // as the other side seals it, often with the counter that is expected
			other := session(int(1-fromPeripheral(role)), rx, tx)
			other.Tx += uint64(random.Intn(4) / 3)
			if q, e := encrypt.Seal(other, p); e == api.OK {
				p = q
			}
		}
		s := session(role, tx, rx)
		s.TxOn, s.RxOn = random.Intn(2) == 0, random.Intn(4) > 0
		want, e := open(s, p)
		expectOpen(t, s, p, want, e)
	}
}

func TestP29_5Next(t *testing.T) {
	one := map[bool]uint64{true: 1}
	for _, role := range roles {
		for i, n := range counters {
			m := counters[len(counters)-1-i]
			for _, tx := range onAndOff {
				for _, rx := range onAndOff {
					for _, sent := range onAndOff {
						for _, got := range onAndOff {
							s := api.Session{Role: role, Key: 5, Salt: 6, TxOn: tx, RxOn: rx, Tx: n, Rx: m}
							want := s
							want.Tx, want.Rx = n+one[sent && tx], m+one[got && rx]
							if next := encrypt.Next(s, sent, got); next != want {
								t.Errorf("Next(%+v, %v, %v) = %+v", s, sent, got, next)
							}
						}
					}
				}
			}
		}
	}
}

func TestP29_5NextExampleAndWrap(t *testing.T) {
	s := encrypt.Next(encrypt.Turn(encrypt.New(api.Central, 1, 2, 3), true, false), true, true)
	if s.Tx != 1 || s.Rx != 0 {
		t.Errorf("with TxOn only: %+v", s)
	}
	s = encrypt.Next(session(api.Central, math.MaxUint64, math.MaxUint64), true, true)
	if s.Tx != 0 || s.Rx != 0 {
		t.Errorf("after the last numbers: %+v", s)
	}
}

func TestP29_6BothSides(t *testing.T) {
	random := rand.New(rand.NewSource(3))
	for range 300 {
		k, c, p := api.Key(random.Uint64()), random.Uint64(), random.Uint64()
		sides := [2]api.Session{
			encrypt.Turn(encrypt.New(api.Central, k, c, p), true, true),
			encrypt.Turn(encrypt.New(api.Peripheral, k, c, p), true, true),
		}
		for range 20 {
			from := random.Intn(2)
			d := pdu(kinds[random.Intn(3)], fill(1+random.Intn(251))...)
			d.SN, d.NESN, d.MD = random.Intn(2), random.Intn(2), random.Intn(2)
			q := sealed(t, sides[from], d)
			if len(q.Packet.Payload) != len(d.Packet.Payload)+4 {
				t.Fatalf("%d bytes were sealed to %d", len(d.Packet.Payload), len(q.Packet.Payload))
			}
			if r := opened(t, sides[1-from], q); !equal(r, d) {
				t.Fatalf("%+v became %+v", d, r)
			}
			sides[from] = encrypt.Next(sides[from], true, false)
			sides[1-from] = encrypt.Next(sides[1-from], false, true)
		}
	}
}

func TestP29_7RepetitionsAreSealedAlike(t *testing.T) {
	for _, role := range []int{api.Central, api.Peripheral} {
		for _, llid := range kinds {
			s := session(role, 3, 4)
			want := sealed(t, s, pdu(llid, fill(30)...)).Packet
			for bits := range 8 {
				p := pdu(llid, fill(30)...)
				p.SN, p.NESN, p.MD = bits&1, bits>>1&1, bits>>2
				q := sealed(t, s, p)
				if q.SN != p.SN || q.NESN != p.NESN || q.MD != p.MD || !reflect.DeepEqual(q.Packet, want) {
					t.Errorf("%+v was sealed to %+v", p, q)
				}
			}
		}
	}
}

// roomy returns a PDU whose payload has memory behind it.
func roomy(p api.DataPDU) api.DataPDU {
	p.Packet.Payload = append(make([]byte, 0, len(p.Packet.Payload)+40), p.Packet.Payload...)
	return p
}

func TestR5ResultsAreNewMemory(t *testing.T) {
	s := session(api.Central, 0, 0)
	valid := sealed(t, session(api.Peripheral, 0, 0), pdu(api.LLStart, fill(20)...))
	for _, c := range []api.DataPDU{valid, pdu(api.LLContinue), pdu(api.LLStart, fill(252)...), pdu(api.LLStart, 1), pdu(9, 1)} {
		for _, on := range onAndOff {
			for name, f := range map[string]func(api.Session, api.DataPDU) (api.DataPDU, api.Errno){"Seal": encrypt.Seal, "Open": encrypt.Open} {
				p := roomy(c)
				whole := p.Packet.Payload[:cap(p.Packet.Payload)]
				before := slices.Clone(whole)
				q, _ := f(encrypt.Turn(s, on, on), p)
				for i := range q.Packet.Payload[:cap(q.Packet.Payload)] {
					q.Packet.Payload[:cap(q.Packet.Payload)][i] ^= 255
				}
				if !bytes.Equal(whole, before) {
					t.Errorf("%s changed %v", name, c)
				}
			}
		}
	}
}
