package link_test

import (
	"fmt"
	"math"
	"slices"
	"testing"

	"wireless/api"
	"wireless/encrypt"
)

// fill returns n bytes.
func fill(n int) []byte {
	b := make([]byte, n)
	for i := range b {
		b[i] = byte(i + 1)
	}
	return b
}

func sending(llid int, payload ...byte) api.Act {
	return api.Act{Kind: api.ActSend, Packet: api.Packet{LLID: llid, Payload: payload}}
}

// refuses checks that an act leads to an error and changes nothing.
func refuses(t *testing.T, l api.Link, a api.Act, want api.Errno) {
	t.Helper()
	s, e := do(t, l, a, end)
	if e != want {
		t.Errorf("Do(%+v): %v, want %v", a, e, want)
	}
	expect(t, fmt.Sprintf("the side after Do(%+v)", a), s, l)
}

// done returns a side after an act that must not be refused.
func done(t *testing.T, l api.Link, a api.Act) api.Link {
	t.Helper()
	s, e := do(t, l, a, end)
	if e != api.OK {
		t.Fatalf("Do(%+v) of %+v: %v", a, l, e)
	}
	return s
}

func TestP30_2ActsNeedASideThatExists(t *testing.T) {
	for _, role := range []int{api.Central, api.Peripheral} {
		l := changed(fresh(t, role, 0), func(l *api.Link) { l.Reason = api.ReasonTimeout })
		for _, kind := range []int{math.MinInt, -1, 0, 1, 2, 3, 4, 5, 6, 7, 8, 9, 10, 11, 12, 13, 14, 99} {
			refuses(t, l, api.Act{Kind: kind}, api.ErrState)
			refuses(t, l, api.Act{Kind: kind, Key: 1, Map: 3, Update: updates[0], Number: 30, Packet: api.Packet{LLID: 2, Payload: fill(1)}}, api.ErrState)
		}
	}
}

func TestP30_2OtherKinds(t *testing.T) {
	for _, role := range []int{api.Central, api.Peripheral} {
		for _, kind := range []int{math.MinInt, -1, 0, 11, 14, 15, 257, math.MaxInt} {
			refuses(t, fresh(t, role, 0), api.Act{Kind: kind, Key: 1}, api.ErrKind)
		}
	}
}

func TestP30_2SendQueuesPackets(t *testing.T) {
	for _, role := range []int{api.Central, api.Peripheral} {
		l := fresh(t, role, 0)
		want := whole(l)
		for i, a := range []api.Act{sending(api.LLStart, 7), sending(api.LLContinue, fill(27)...), sending(api.LLStart, fill(27)...)} {
			a.Side = i // of no meaning here
			l = done(t, l, a)
			want.Arq.Queue = append(want.Arq.Queue, a.Packet)
			expect(t, "the side with packets", l, want)
		}
	}
}

func TestP30_2SendRefuses(t *testing.T) {
	l := fresh(t, api.Central, 0)
	for _, c := range []struct {
		a api.Act
		e api.Errno
	}{
		{sending(api.LLControl, 18), api.ErrInvalid},
		{sending(0, 1), api.ErrInvalid},
		{sending(4, 1), api.ErrInvalid},
		{sending(-1), api.ErrInvalid},
		{sending(api.LLControl, fill(256)...), api.ErrInvalid},
		{sending(api.LLStart), api.ErrInvalid},
		{sending(api.LLContinue), api.ErrInvalid},
		{sending(api.LLStart, fill(28)...), api.ErrTooLong},
		{sending(api.LLContinue, fill(255)...), api.ErrTooLong},
		{sending(api.LLContinue, fill(300)...), api.ErrTooLong},
	} {
		refuses(t, l, c.a, c.e)
	}
}

func TestP30_2SendObservesTheLength(t *testing.T) {
	for _, n := range []int{27, 28, 100, 250, 251} {
		l := changed(fresh(t, api.Central, 0), func(l *api.Link) { l.Procs.Length = n })
		done(t, l, sending(api.LLStart, fill(n)...))
		refuses(t, l, sending(api.LLStart, fill(n+1)...), api.ErrTooLong)
	}
}

func TestP30_2SendIsBusyWhileEncryptionStarts(t *testing.T) {
	for crypt, want := range map[int]api.Errno{api.CryptOff: api.OK, api.CryptAsked: api.ErrBusy, api.CryptSalted: api.ErrBusy, api.CryptStarted: api.ErrBusy, api.CryptOn: api.OK} {
		l := changed(fresh(t, api.Central, 0), func(l *api.Link) { l.Procs.Crypt = crypt })
		if _, e := do(t, l, sending(api.LLStart, 1), end); e != want {
			t.Errorf("in the phase %d: %v, want %v", crypt, e, want)
		}
		if want == api.ErrBusy { // the other errors come first, the ones of the queue last
			refuses(t, l, sending(api.LLControl, 1), api.ErrInvalid)
			refuses(t, l, sending(api.LLStart), api.ErrInvalid)
			refuses(t, l, sending(api.LLStart, fill(28)...), api.ErrTooLong)
			refuses(t, l, sending(api.LLContinue), api.ErrBusy)
		}
	}
}

// full returns a side whose queue has no room.
func full(t *testing.T, l api.Link) api.Link {
	t.Helper()
	for range api.MaxQueue {
		l = done(t, l, sending(api.LLStart, 7))
	}
	return l
}

func TestP30_2SendNeedsRoom(t *testing.T) {
	l := full(t, fresh(t, api.Peripheral, 0))
	refuses(t, l, sending(api.LLStart, 1), api.ErrFull)
	refuses(t, l, sending(api.LLContinue), api.ErrInvalid)
	refuses(t, l, sending(api.LLStart, fill(28)...), api.ErrTooLong)
}

// everything is an act with all fields, of which each kind uses few.
func everything(kind int) api.Act {
	return api.Act{Side: 7, Kind: kind, Packet: api.Packet{LLID: 2, Payload: fill(3)}, Update: updates[1], Map: 33, Number: 60, Key: 5}
}

func TestP30_2RequestsBegin(t *testing.T) {
	for _, c := range []struct {
		kind    int
		central bool // only the central, or only the peripheral if solo is set
		solo    bool
		want    api.Control
	}{
		{api.ActUpdate, true, true, api.Control{Kind: api.CtlUpdate, Update: updates[1], Instant: 1}},
		{api.ActMap, true, true, api.Control{Kind: api.CtlMap, Map: 33, Instant: 1}},
		{api.ActTerminate, false, false, api.Control{Kind: api.CtlTerminate, Reason: 60}},
		{api.ActFeatures, false, false, api.Control{Kind: api.CtlFeatures, Features: 63}},
		{api.ActVersion, false, false, api.Control{Kind: api.CtlVersion, Version: 11}},
		{api.ActPing, false, false, api.Control{Kind: api.CtlPing}},
		{api.ActLength, false, false, api.Control{Kind: api.CtlLength, Length: 60}},
		{api.ActParams, false, true, api.Control{Kind: api.CtlParams, Update: updates[1]}},
	} {
		for _, role := range []int{api.Central, api.Peripheral} {
			// The planning event is 65530 + 1, and instants are six later.
			l := changed(fresh(t, role, 1), func(l *api.Link) { l.Event = 65530 })
			if c.solo && c.central != (role == api.Central) {
				refuses(t, l, everything(c.kind), api.ErrState)
				continue
			}
			s := done(t, l, everything(c.kind))
			if !slices.Equal(s.Commands, []api.Control{c.want}) || s.Procs.Own != c.want.Kind || s.Procs.Since != end {
				t.Errorf("the act %d: %+v", c.kind, s)
			}
			s.Commands, s.Procs = nil, l.Procs
			expect(t, fmt.Sprintf("the side after the act %d", c.kind), s, l)
		}
	}
}

func TestP30_2RequestsWaitBehindOthers(t *testing.T) {
	l := done(t, fresh(t, api.Central, 0), everything(api.ActPing))
	l = done(t, l, everything(api.ActMap))
	l = done(t, l, everything(api.ActTerminate))
	want := []api.Control{{Kind: api.CtlPing}, {Kind: api.CtlTerminate, Reason: 60}}
	if !slices.Equal(l.Commands, want) || len(l.Procs.Waiting) != 0 {
		t.Errorf("Commands %+v, Waiting %+v", l.Commands, l.Procs.Waiting)
	}
	l = done(t, fresh(t, api.Central, 0), everything(api.ActPing))
	for range 8 {
		l = done(t, l, everything(api.ActFeatures))
	}
	if len(l.Commands) != 1 || len(l.Procs.Waiting) != 8 {
		t.Errorf("Commands %+v, Waiting %+v", l.Commands, l.Procs.Waiting)
	}
	refuses(t, l, everything(api.ActMap), api.ErrFull)
	refuses(t, l, everything(api.ActEncrypt), api.ErrFull)
}

func TestP30_2TheErrorsOfStart(t *testing.T) {
	central, peripheral := fresh(t, api.Central, 0), fresh(t, api.Peripheral, 0)
	numbers := func(kind int, n uint64) api.Act { return api.Act{Kind: kind, Number: n} }
	for _, l := range []api.Link{central, peripheral} {
		for _, n := range []uint64{256, 1 << 31, 1<<31 - 1, 1 << 32, 1<<32 + 30, 1 << 63, 1<<63 + 30, math.MaxUint64} {
			refuses(t, l, numbers(api.ActTerminate, n), api.ErrRange)
			refuses(t, l, numbers(api.ActLength, n), api.ErrRange)
		}
		for n, e := range map[uint64]api.Errno{0: api.ErrRange, 26: api.ErrRange, 27: api.OK, 251: api.OK, 252: api.ErrRange} {
			if _, got := do(t, l, numbers(api.ActLength, n), end); got != e {
				t.Errorf("the length %d: %v", n, got)
			}
		}
		done(t, l, numbers(api.ActTerminate, 0))
		done(t, l, numbers(api.ActTerminate, 255))
	}
	refuses(t, central, api.Act{Kind: api.ActMap, Map: 1}, api.ErrInvalid)
	refuses(t, peripheral, api.Act{Kind: api.ActMap, Map: 1 << 37}, api.ErrRange)
	refuses(t, central, api.Act{Kind: api.ActUpdate}, api.ErrRange)
	refuses(t, peripheral, api.Act{Kind: api.ActUpdate, Update: updates[0]}, api.ErrState)
	refuses(t, peripheral, api.Act{Kind: api.ActParams}, api.ErrRange)
	ended := done(t, central, everything(api.ActTerminate))
	for _, kind := range []int{api.ActUpdate, api.ActMap, api.ActTerminate, api.ActEncrypt, api.ActFeatures, api.ActVersion, api.ActPing, api.ActLength} {
		refuses(t, ended, everything(kind), api.ErrState)
	}
}

func TestP30_2Encrypt(t *testing.T) {
	l := fresh(t, api.Central, 0)
	refuses(t, l, api.Act{Kind: api.ActEncrypt, Number: 9}, api.ErrKey)
	refuses(t, fresh(t, api.Peripheral, 0), api.Act{Kind: api.ActEncrypt, Number: 9}, api.ErrKey)
	refuses(t, fresh(t, api.Peripheral, 0), api.Act{Kind: api.ActEncrypt, Key: 5}, api.ErrState)
	s := done(t, l, api.Act{Kind: api.ActEncrypt, Key: 5, Number: math.MaxUint64})
	want := changed(l, func(l *api.Link) {
		l.Key = 5
		l.Commands = []api.Control{{Kind: api.CtlEncrypt, Mark: math.MaxUint64, Salt: seed}}
		l.Procs.Own, l.Procs.Since, l.Procs.Crypt = api.CtlEncrypt, end, api.CryptAsked
		l.Procs.Salt, l.Procs.Mark = seed, math.MaxUint64
	})
	expect(t, "the side that asked for encryption", s, want)
	refuses(t, s, api.Act{Kind: api.ActEncrypt, Key: 6}, api.ErrState)
	refuses(t, s, api.Act{Kind: api.ActEncrypt}, api.ErrKey)
	// The key is also that of a request that waits.
	s = done(t, done(t, l, everything(api.ActPing)), api.Act{Kind: api.ActEncrypt, Key: 6})
	if s.Key != 6 || len(s.Commands) != 1 || len(s.Procs.Waiting) != 1 {
		t.Errorf("a request that waits: %+v", s)
	}
}

// asked returns a peripheral that was asked for a long-term key.
func asked(t *testing.T) api.Link {
	t.Helper()
	x := exact(t, usual())
	x.must(0, api.Act{Kind: api.ActEncrypt, Key: 5, Number: 9})
	_, b := send(t, x.sides[0])
	s, told, _ := receive(t, x.sides[1], b, true, 1250)
	if len(told) != 1 || told[0].Kind != api.IndKey || told[0].Number != 9 {
		t.Fatalf("the peripheral reports %+v", told)
	}
	return s
}

func TestP30_2Key(t *testing.T) {
	l := asked(t)
	if l.Procs.Peer != 900 || l.Seed != 901 {
		t.Fatalf("the peripheral: %+v", l)
	}
	s := done(t, l, api.Act{Kind: api.ActKey, Key: 5, Number: 3})
	want := changed(l, func(l *api.Link) {
		l.Key = 5
		l.Commands = []api.Control{{Kind: api.CtlEncAnswer, Salt: 901}, {Kind: api.CtlStart}}
		l.Procs.Crypt, l.Procs.Salt = api.CryptStarted, 901
		l.Session = encrypt.New(api.Peripheral, 5, 900, 901)
		l.Session.RxOn = true
	})
	expect(t, "the side that was told the key", s, want)
	refuses(t, s, api.Act{Kind: api.ActKey, Key: 5}, api.ErrState)
	s = done(t, l, api.Act{Kind: api.ActKey})
	want = changed(l, func(l *api.Link) {
		l.Commands = []api.Control{{Kind: api.CtlReject, Reason: api.ReasonKey, Rejected: api.CtlEncrypt}}
		l.Procs.Crypt, l.Procs.Other = api.CryptOff, -1
	})
	expect(t, "the side that has no key", s, want)
	if s.Key != 77 {
		t.Errorf("the key became %d", s.Key)
	}
	for crypt := range 5 {
		if crypt != api.CryptAsked {
			refuses(t, changed(l, func(l *api.Link) { l.Procs.Crypt = crypt }), api.Act{Kind: api.ActKey, Key: 5}, api.ErrState)
		}
	}
	refuses(t, changed(l, func(l *api.Link) { l.Role = api.Central }), api.Act{Kind: api.ActKey, Key: 5}, api.ErrState)
	refuses(t, fresh(t, api.Peripheral, 0), api.Act{Kind: api.ActKey}, api.ErrState)
}

func TestP30_2Assess(t *testing.T) {
	l := with(t, api.Central, func(p *api.ConnParams) { p.Map = 0b1111; p.Update.Latency = 2 })
	refuses(t, with(t, api.Peripheral, func(*api.ConnParams) {}), api.Act{Kind: api.ActAssess}, api.ErrState)
	expect(t, "the side without bad channels", done(t, l, api.Act{Kind: api.ActAssess}), l)
	l.Tallies[1] = api.Tally{Good: 3, Bad: 5}
	l.Tallies[2] = api.Tally{Good: 9, Bad: 1}
	l.Tallies[30] = api.Tally{Bad: 99} // not in the map
	s := done(t, l, everything(api.ActAssess))
	if want := []api.Control{{Kind: api.CtlMap, Map: 0b1101, Instant: 8}}; !slices.Equal(s.Commands, want) {
		t.Errorf("Commands = %+v", s.Commands)
	}
	want := changed(l, func(l *api.Link) {
		l.Tallies[1], l.Tallies[2], l.Tallies[30] = api.Tally{Good: 1, Bad: 2}, api.Tally{Good: 4}, api.Tally{Bad: 49}
		l.Commands, l.Procs = s.Commands, s.Procs
	})
	expect(t, "the side that assessed its channels", s, want)
	// Two channels are always left, and a request may also wait.
	for i := range 4 {
		l.Tallies[i] = api.Tally{Bad: 8 + i}
	}
	s = done(t, done(t, l, everything(api.ActPing)), api.Act{Kind: api.ActAssess})
	if len(s.Procs.Waiting) != 1 || s.Procs.Waiting[0].Map != 0b1100 || s.Tallies[3].Bad != 5 {
		t.Errorf("a proposal that waits: %+v", s)
	}
	ended := done(t, l, everything(api.ActTerminate))
	refuses(t, ended, api.Act{Kind: api.ActAssess}, api.ErrState)
	ended.Params.Map = 0b11
	expect(t, "the side that ends, but has nothing to propose", done(t, ended, api.Act{Kind: api.ActAssess}), ended)
}
