package link_test

import (
	"fmt"
	"reflect"
	"slices"
	"testing"

	"wireless/api"
	"wireless/connect"
	"wireless/link"
)

// closes closes the event of a side, and checks what it reports.
func closes(t *testing.T, l api.Link, now int, reports ...api.Indication) api.Link {
	t.Helper()
	s, told := closed(t, l, now)
	if !reflect.DeepEqual(list(told), list(reports)) {
		t.Errorf("the side reports %+v, want %+v", told, reports)
	}
	return s
}

func TestP30_6TheNextEvent(t *testing.T) {
	for _, role := range []int{api.Central, api.Peripheral} {
		l := changed(fresh(t, role, 0), func(l *api.Link) { l.Got, l.Good, l.Acked, l.More = true, true, true, true })
		s := closes(t, l, end)
		want := changed(l, func(l *api.Link) {
			l.Event, l.Last, l.Anchor = 1, 7, l.Anchor+10000
			l.Got, l.Good, l.Acked, l.More = false, false, false, false
			l.Listen.Full = role == api.Central
		})
		expect(t, "the side in its next event", s, want)
		s.Event = 65535
		if s = closes(t, s, end); s.Event != 0 || s.Last != 14 {
			t.Errorf("after the event 65535: %+v", s)
		}
	}
}

func TestP30_6LastIsUnmapped(t *testing.T) {
	for algorithm, want := range map[int]int{api.HopSum: 7, api.HopMix: unmapped(t)} {
		l := with(t, api.Central, func(p *api.ConnParams) { p.Map, p.Algorithm = 3, algorithm })
		if s := closes(t, l, end); s.Last != want {
			t.Errorf("with the algorithm %d: %d, want %d", algorithm, s.Last, want)
		}
	}
}

// unmapped returns the channel of the first event by HopMix if all are in use.
func unmapped(t *testing.T) int {
	t.Helper()
	return link.Channel(with(t, api.Central, func(p *api.ConnParams) { p.Algorithm = api.HopMix }))
}

func TestP30_6LatencyIsToldOfTheEvent(t *testing.T) {
	for _, c := range []struct {
		name       string
		got, acked bool
		change     func(l *api.Link)
		skipped    int
		full       bool
	}{
		{"it was skipped", false, false, func(*api.Link) {}, 2, false},
		{"a packet arrived", true, false, func(*api.Link) {}, 0, false},
		{"a packet with an acknowledgement arrived", true, true, func(*api.Link) {}, 0, false},
		{"it had to listen", false, false, func(l *api.Link) { l.Listen.Skipped = 3 }, 0, false},
		{"it had something to send", false, false, func(l *api.Link) { l.Commands = []api.Control{{Kind: api.CtlPing}} }, 0, false},
		{"it has a new latency", false, false, func(l *api.Link) { l.Listen.Full = true }, 0, true},
		{"it has a new latency, and a packet arrived", true, false, func(l *api.Link) { l.Listen.Full = true }, 0, true},
		{"it has a new latency, and an acknowledgement arrived", true, true, func(l *api.Link) { l.Listen.Full = true }, 0, false},
	} {
		l := changed(resting(t, 3), func(l *api.Link) {
			l.Got, l.Good, l.Acked, l.Listen.Skipped = c.got, c.got, c.acked, 1
			c.change(l)
		})
		before := l.Tallies[link.Channel(l)].Bad
		s := closes(t, l, l.Heard)
		if want := (api.Listening{Latency: 3, Skipped: c.skipped, Full: c.full}); s.Listen != want {
			t.Errorf("%s: %+v, want %+v", c.name, s.Listen, want)
		}
		bad := 0
		if !c.got && c.skipped == 0 {
			bad = 1
		}
		if got := s.Tallies[link.Channel(l)].Bad - before; got != bad {
			t.Errorf("%s: %d bad packets were recorded", c.name, got)
		}
	}
}

func TestP30_6TheCentralHasNoLatency(t *testing.T) {
	l := changed(fresh(t, api.Central, 3), func(l *api.Link) {
		l.Begun, l.Listen = true, api.Listening{Latency: 3, Skipped: 1}
	})
	s := closes(t, l, end)
	if s.Listen != l.Listen || s.Tallies[7] != (api.Tally{Bad: 1}) {
		t.Errorf("%+v, %+v", s.Listen, s.Tallies)
	}
}

func TestP30_6TalliesOfTheEvent(t *testing.T) {
	for _, role := range []int{api.Central, api.Peripheral} {
		l := fresh(t, role, 0)
		if s := closes(t, l, end); s.Tallies[7] != (api.Tally{Bad: 1}) {
			t.Errorf("without packets: %+v", s.Tallies[7])
		}
		// A broken packet counts, and that no correct one arrived counts as well.
		b := onAir(l, pdu(0, 0, 0, api.LLContinue))
		b[0] ^= 1
		broken, _, _ := receive(t, l, b, true, 12000)
		if s := closes(t, broken, end); s.Tallies[7] != (api.Tally{Bad: 2}) {
			t.Errorf("with a broken packet: %+v", s.Tallies[7])
		}
		good := takes(t, broken, pdu(0, 0, 0, api.LLContinue))
		if s := closes(t, good, end); s.Tallies[7] != (api.Tally{Good: 1, Bad: 1}) {
			t.Errorf("with a broken packet and a correct one: %+v", s.Tallies[7])
		}
	}
}

func TestP30_6ChangesAreApplied(t *testing.T) {
	u := updates[2]
	channels := api.Change{Kind: api.CtlMap, Instant: 5, Map: 33}
	update := api.Change{Kind: api.CtlUpdate, Instant: 5, Update: u}
	for _, role := range []int{api.Central, api.Peripheral} {
		l := changed(fresh(t, role, 3), func(l *api.Link) {
			l.Event, l.Begun, l.Good, l.Procs.Told = 3, true, true, true
			l.Listen = api.Listening{Latency: 3, Skipped: 1}
			l.Procs.Pending = []api.Change{channels}
		})
		early := closes(t, l, end)
		early.Good = true
		if len(early.Procs.Pending) != 1 || early.Params != l.Params {
			t.Errorf("before the instant: %+v", early)
		}
		s := closes(t, early, end, api.Indication{Kind: api.IndChange, Event: 5, Change: channels})
		if s.Params.Map != 33 || s.Params.Update != l.Params.Update || len(s.Procs.Pending) > 0 || s.Anchor != early.Anchor+10000 || s.Size != early.Size || s.Listen.Full {
			t.Errorf("with a map: %+v", s)
		}
		early.Procs.Pending = []api.Change{update}
		s = closes(t, early, end, api.Indication{Kind: api.IndChange, Event: 5, Change: update})
		size := early.Size
		if role == api.Peripheral {
			size += u.WinSize * 1250
		}
		if s.Params.Update != u || s.Params.Map != l.Params.Map || s.Anchor != early.Anchor+10000+u.WinOffset*1250 || s.Size != size || s.Listen != (api.Listening{Latency: u.Latency, Full: true}) {
			t.Errorf("with parameters: %+v", s)
		}
		if s = closes(t, s, end); s.Anchor != early.Anchor+10000+u.WinOffset*1250+u.Interval*1250 || s.Size != size {
			t.Errorf("an event later: %+v", s)
		}
		early.Procs.Pending = []api.Change{update, channels} // in order, though two are never pending
		closes(t, early, end, api.Indication{Kind: api.IndChange, Event: 5, Change: update}, api.Indication{Kind: api.IndChange, Event: 5, Change: channels})
	}
}

func TestP30_6AChangeThatWasNotToldEndsTheCentral(t *testing.T) {
	l := done(t, fresh(t, api.Central, 0), everything(api.ActMap))
	for range 5 {
		l = closes(t, l, end)
	}
	s := closes(t, l, end, api.Indication{Kind: api.IndEnded, Event: 6, Number: api.ReasonInstant})
	if s.Reason != api.ReasonInstant || s.Params.Map != l.Params.Map || len(s.Procs.Pending) > 0 {
		t.Errorf("%+v", s)
	}
}

func TestP30_6RequestsThatWaitBegin(t *testing.T) {
	l := fresh(t, api.Central, 3)
	l.Commands = []api.Control{{Kind: api.CtlPingAnswer}}
	l.Procs.Waiting = []api.Control{{Kind: api.CtlMap, Map: 33}, {Kind: api.CtlPing}}
	s := closes(t, l, 12000)
	// The event is 1, the planning event 4, and the instant six later.
	if want := []api.Control{{Kind: api.CtlPingAnswer}, {Kind: api.CtlMap, Map: 33, Instant: 10}}; !slices.Equal(s.Commands, want) {
		t.Errorf("Commands = %+v", s.Commands)
	}
	if s.Procs.Own != api.CtlMap || s.Procs.Since != 12000 || len(s.Procs.Waiting) != 1 {
		t.Errorf("Procs = %+v", s.Procs)
	}
	// A new latency counts at once.
	l.Procs.Pending, l.Procs.Told = []api.Change{{Kind: api.CtlUpdate, Instant: 1, Update: updates[2]}}, true
	if s, _ = closed(t, l, end); len(s.Commands) != 2 || s.Commands[1].Instant != 1+9+6 {
		t.Errorf("with a new latency: %+v", s.Commands)
	}
}

// ends checks for which reason, if any, a side ends.
func ends(t *testing.T, name string, l api.Link, now, reason int) {
	t.Helper()
	s, told := closed(t, l, now)
	want := []api.Indication{{Kind: api.IndEnded, Event: l.Event + 1, Number: uint64(reason)}}
	if reason == api.ReasonNone {
		want = nil
	}
	if s.Reason != reason || !reflect.DeepEqual(list(told), want) {
		t.Errorf("%s: the reason is %d, want %d; reports %+v", name, s.Reason, reason, told)
	}
}

func TestP30_6NothingWasEstablished(t *testing.T) {
	for _, role := range []int{api.Central, api.Peripheral} {
		for _, u := range updates {
			l := with(t, role, func(p *api.ConnParams) { p.Update = u })
			six := 6 * u.Interval * 1250
			ends(t, "after six intervals", l, end+six, api.ReasonNone)
			ends(t, "after more than six intervals", l, end+six+1, api.ReasonEstablish)
			ends(t, "at once", l, end, api.ReasonNone)
		}
	}
	// A broken packet does not establish a connection.
	l := fresh(t, api.Peripheral, 0)
	b := onAir(l, pdu(0, 0, 0, api.LLContinue))
	b[0] ^= 1
	l, _, _ = receive(t, l, b, true, 60000)
	ends(t, "with a broken packet", l, end+60001, api.ReasonEstablish)
}

func TestP30_6TheOtherSideIsSilent(t *testing.T) {
	for _, role := range []int{api.Central, api.Peripheral} {
		for _, u := range updates {
			l := changed(with(t, role, func(p *api.ConnParams) { p.Update = u }), func(l *api.Link) { l.Begun, l.Heard = true, 70000 })
			ends(t, "after the timeout", l, 70000+connect.Timeout(u), api.ReasonNone)
			ends(t, "after more than the timeout", l, 70001+connect.Timeout(u), api.ReasonTimeout)
		}
		// The timeout is that of parameters that were just applied.
		l := changed(fresh(t, role, 0), func(l *api.Link) { l.Begun, l.Heard, l.Procs.Told = true, 70000, true })
		l.Procs.Pending = []api.Change{{Kind: api.CtlUpdate, Instant: 1, Update: updates[1]}}
		if s, _ := closed(t, l, 570000); s.Reason != api.ReasonNone {
			t.Errorf("after a new timeout: %d", s.Reason)
		}
		if s, told := closed(t, l, 570001); s.Reason != api.ReasonTimeout || len(told) != 2 || told[0].Kind != api.IndChange || told[1].Kind != api.IndEnded || told[1].Event != 1 {
			t.Errorf("after more than a new timeout: %d, %+v", s.Reason, told)
		}
	}
}

func TestP30_6TheFirstReasonCounts(t *testing.T) {
	const late = end + 50000000
	silent := fresh(t, api.Central, 0)
	expired := changed(silent, func(l *api.Link) { l.Procs.Own, l.Procs.Since = api.CtlPing, end })
	terminated := changed(expired, func(l *api.Link) { l.Procs.Ended = api.ReasonUser })
	ends(t, "nothing was heard", silent, late, api.ReasonEstablish)
	ends(t, "and a procedure has expired", expired, late, api.ReasonResponse)
	ends(t, "and the connection was terminated", terminated, late, api.ReasonUser)
	heard := func(l api.Link) api.Link { return changed(l, func(l *api.Link) { l.Begun = true }) }
	ends(t, "long ago something was heard", heard(silent), late, api.ReasonTimeout)
	ends(t, "and a procedure has expired", heard(expired), late, api.ReasonResponse)
	ends(t, "and the connection was terminated", heard(terminated), late, api.ReasonUser)
	ends(t, "a procedure has lasted", changed(heard(expired), func(l *api.Link) { l.Heard = end + api.ProcTimeout }), end+api.ProcTimeout, api.ReasonNone)
	ends(t, "a procedure has lasted too long", changed(heard(expired), func(l *api.Link) { l.Heard = end + api.ProcTimeout }), end+api.ProcTimeout+1, api.ReasonResponse)
	for reason := 1; reason < 256; reason++ {
		ends(t, "the connection was terminated", changed(heard(silent), func(l *api.Link) { l.Procs.Ended = reason }), end, reason)
	}
	// A procedure that begins now has not expired.
	waiting := changed(heard(silent), func(l *api.Link) { l.Procs.Waiting, l.Heard = []api.Control{{Kind: api.CtlPing}}, late })
	ends(t, "a request begins", waiting, late, api.ReasonNone)
}

func TestP30_6NothingHappensAfterTheEnd(t *testing.T) {
	l := changed(fresh(t, api.Peripheral, 0), func(l *api.Link) { l.Reason, l.Got, l.More = api.ReasonUser, true, true })
	expect(t, "the side that has ended", closes(t, l, 1<<30), l)
}

// TestP30_6Examples is a peripheral that hears nothing after the request.
func TestP30_6Examples(t *testing.T) {
	l := fresh(t, api.Peripheral, 0)
	for l.Reason == api.ReasonNone && l.Event < 10 {
		now := link.Window(l).End
		var told []api.Indication
		l, told = closed(t, l, now)
		silent := now - end
		if over := silent > 60000; over != (l.Reason == api.ReasonEstablish) || over != (len(told) == 1) {
			t.Errorf("after %d microseconds and %d events: %d, %+v", silent, l.Event, l.Reason, told)
		}
	}
	// The windows end 2500 microseconds and more, and a multiple of 10000 microseconds, after the request.
	if l.Reason != api.ReasonEstablish || l.Event != 7 {
		t.Errorf("the side ended with %d before the event %d", l.Reason, l.Event)
	}
}

func TestP30_7RepetitionsAreTheSame(t *testing.T) {
	for _, role := range []int{api.Central, api.Peripheral} {
		for name, l := range map[string]api.Link{
			"with nothing":    fresh(t, role, 0),
			"with a packet":   done(t, fresh(t, role, 0), sending(api.LLStart, fill(20)...)),
			"with a request":  done(t, fresh(t, role, 0), everything(api.ActPing)),
			"with encryption": changed(done(t, fresh(t, role, 0), sending(api.LLStart, fill(20)...)), func(l *api.Link) { l.Session = vectorSession(role) }),
			"that is empty":   changed(fresh(t, role, 0), func(l *api.Link) { l.Session = vectorSession(role) }),
		} {
			s, b := send(t, l)
			first := read(t, s, b)
			// Meanwhile events pass, and requests and packets are added.
			for i := range 6 {
				s, b = send(t, s)
				p := read(t, s, b)
				if p.SN != first.SN || !reflect.DeepEqual(p.Packet, first.Packet) {
					t.Errorf("%s: %+v, and then %+v", name, first, p)
				}
				s = done(t, s, []api.Act{sending(api.LLStart, 9), everything(api.ActFeatures), everything(api.ActLength)}[i%3])
				s = closes(t, s, end)
			}
			if name == "that is empty" && len(first.Packet.Payload) > 0 {
				t.Errorf("an empty packet was sealed: %+v", first)
			}
		}
	}
}

func TestP30_8AfterTheEnd(t *testing.T) {
	for _, reason := range []int{api.ReasonAuth, api.ReasonUser, api.ReasonHost, api.ReasonIntegrity, api.ReasonReset} {
		for _, role := range []int{api.Central, api.Peripheral} {
			l := done(t, done(t, fresh(t, role, 3), sending(api.LLStart, 7)), everything(api.ActPing))
			l, _ = send(t, l)
			l = closes(t, takes(t, l, pdu(0, 0, 0, api.LLContinue)), 12000)
			l.Reason = reason
			lifeless(t, l)
		}
	}
}

func TestP30_9SkippedEvents(t *testing.T) {
	for _, n := range []int{0, 1, 2, 3, 7} {
		l := resting(t, n+1)
		l.Listen.Latency, l.Params.Update.Latency = n, n
		for i := range 3 * (n + 1) {
			skips := link.Skips(l)
			if want := i%(n+1) < n; skips != want {
				t.Errorf("with the latency %d, event %d: Skips is %v", n, i, skips)
			}
			if !skips {
				l = takes(t, l, pdu(1-l.Arq.NESN, l.Arq.SN, 0, api.LLContinue))
			}
			l = closes(t, l, 12000)
		}
	}
}

func TestP30_9ANewLatencyIsObserved(t *testing.T) {
	x := exact(t, fresh(t, api.Central, 9).Params)
	x.events(40)
	if x.skips == 0 {
		t.Fatal("no event was skipped")
	}
	x.must(0, api.Act{Kind: api.ActUpdate, Update: updates[1]})
	x.events(60)
	if l := x.sides[1]; l.Params.Update != updates[1] || l.Listen.Latency != 3 || len(x.reported(1, api.IndChange)) != 1 {
		t.Errorf("the latency: %+v", l)
	}
}

func TestP30_2To6BothSidesEncrypt(t *testing.T) {
	for _, key := range []api.Key{77, 0} {
		x := exact(t, usual())
		x.answer = key
		x.must(0, sending(api.LLStart, 1))
		x.must(1, sending(api.LLStart, 2))
		x.must(0, api.Act{Kind: api.ActEncrypt, Key: 77, Number: 9})
		x.must(1, everything(api.ActPing))
		x.events(8)
		if told := x.reported(1, api.IndKey); len(told) != 1 || told[0].Number != 9 {
			t.Fatalf("IndKey: %+v", told)
		}
		for i := range 2 {
			s := x.sides[i]
			if key == 0 {
				if s.Procs.Crypt != api.CryptOff || s.Session != (api.Session{}) || len(x.reported(0, api.IndReject)) != 1 {
					t.Errorf("side %d without a key: %+v", i, s)
				}
			} else if len(x.reported(i, api.IndEncrypted)) != 1 || !s.Session.TxOn || !s.Session.RxOn || s.Session.Tx == 0 {
				t.Errorf("side %d is not encrypted: %+v", i, s)
			}
			x.must(i, sending(api.LLStart, fill(27)...))
		}
		x.events(3)
		for i := range 2 {
			if len(x.got[i]) != 2 || x.sides[i].Session.Tx != x.sides[1-i].Session.Rx {
				t.Errorf("side %d got %v: %+v", i, x.got[i], x.sides[i].Session)
			}
		}
		if len(x.reported(1, api.IndPing)) != 1 {
			t.Error("the ping was not answered")
		}
	}
}

func TestP30_5DifferentKeysDoNotFit(t *testing.T) {
	x := exact(t, usual())
	x.answer = 78
	x.must(0, api.Act{Kind: api.ActEncrypt, Key: 77})
	x.events(8)
	if x.sides[1].Reason != api.ReasonIntegrity {
		t.Errorf("the peripheral ended with %d", x.sides[1].Reason)
	}
	x.events(120)
	if x.sides[0].Reason != api.ReasonTimeout {
		t.Errorf("the central ended with %d", x.sides[0].Reason)
	}
}

func TestP30_6BothSidesEnd(t *testing.T) {
	for side := range 2 {
		for _, reason := range []int{0, api.ReasonUser, 200} {
			x := exact(t, usual())
			x.events(3)
			x.must(side, api.Act{Kind: api.ActTerminate, Number: uint64(reason)})
			x.events(6)
			told := reason
			if reason == api.ReasonNone {
				told = api.ReasonUser
			}
			if got := x.sides[1-side].Reason; got != told {
				t.Errorf("the other side ended with %d, want %d", got, told)
			}
			if got := x.sides[side].Reason; side == 0 && got != api.ReasonHost {
				t.Errorf("the central ended with %d", got)
			}
			x.events(120)
			if x.exists(0) || x.exists(1) {
				t.Errorf("a side exists: %s", fmt.Sprint(x.sides))
			}
		}
	}
}
