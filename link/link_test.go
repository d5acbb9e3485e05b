package link_test

import (
	"math"
	"math/rand"
	"testing"

	"wireless/api"
	"wireless/connect"
	"wireless/hop"
	"wireless/link"
)

const (
	seed = uint64(0x1111222233334444)
	end  = 10000 // when the connection request of most tests ended
)

// with returns a side with parameters that were changed, whose request ended at the usual time.
func with(t *testing.T, role int, change func(p *api.ConnParams)) api.Link {
	t.Helper()
	p := usual()
	change(&p)
	l, e := link.New(role, p, 50, 0, seed, end)
	if e != api.OK {
		t.Fatalf("New(%d, %+v): %v", role, p, e)
	}
	return l
}

// fresh returns a side with the usual parameters and a latency.
func fresh(t *testing.T, role, latency int) api.Link {
	t.Helper()
	return with(t, role, func(p *api.ConnParams) { p.Update.Latency = latency })
}

// changed returns a copy of a side that was changed.
func changed(l api.Link, change func(l *api.Link)) api.Link {
	l = whole(l)
	change(&l)
	return l
}

// expect checks that a side is as it should be.
func expect(t *testing.T, name string, got, want api.Link) {
	t.Helper()
	if !same(got, want) {
		t.Errorf("%s\n got %+v\nwant %+v", name, got, want)
	}
}

func TestP30_1NewExample(t *testing.T) {
	l := fresh(t, api.Peripheral, 0)
	if l.Anchor != 11250 || l.Size != 1250 {
		t.Errorf("Anchor %d, Size %d", l.Anchor, l.Size)
	}
	if w := link.Window(l); w != (api.Window{Start: 11217, End: 12533}) {
		t.Errorf("Window = %v", w)
	}
}

func TestP30_1New(t *testing.T) {
	for _, role := range []int{api.Central, api.Peripheral} {
		for i, u := range updates {
			for _, ppm := range []int{0, 50, api.MaxPPM} {
				for _, at := range []int{0, 1, end, api.MaxTime} {
					p := usual()
					p.Update, p.Algorithm, p.PPM, p.Map = u, 1+i%2, 100*(i%6), 33
					got, e := link.New(role, p, ppm, 5, seed, at)
					want := api.Link{
						Role: role, Params: p, Clock: ppm, Anchor: at + (1+u.WinOffset)*1250, Sync: at, Heard: at,
						Listen:  api.Listening{Latency: u.Latency, Full: true},
						Procs:   api.Procs{Role: role, Own: -1, Other: -1, Features: 63, Version: -1, Length: 27, Limit: 251},
						Tallies: make([]api.Tally, 37), Key: 5, Seed: seed,
					}
					if role == api.Peripheral {
						want.Size = u.WinSize * 1250
					}
					if e != api.OK || !same(got, want) {
						t.Errorf("New(%d, %+v, %d, 5, %d, %d): %v\n got %+v\nwant %+v", role, p, ppm, seed, at, e, got, want)
					}
				}
			}
		}
	}
}

func TestP30_1NewReturnsTheFirstError(t *testing.T) {
	good := usual()
	spoilt := func(change func(p *api.ConnParams)) api.ConnParams {
		p := usual()
		change(&p)
		return p
	}
	access := spoilt(func(p *api.ConnParams) { p.Access = 0; p.Update.Interval = 0 })
	update := spoilt(func(p *api.ConnParams) { p.Update.WinOffset = 9; p.Map = 1 })
	for _, c := range []struct {
		role int
		p    api.ConnParams
		ppm  int
		at   int
		e    api.Errno
	}{
		{api.Central, good, 0, 0, api.OK},
		{-1, good, 0, 0, api.ErrInvalid},
		{2, good, 0, 0, api.ErrInvalid},
		{257, update, 501, -1, api.ErrInvalid},
		{math.MinInt, good, 0, 0, api.ErrInvalid},
		{api.Central, access, 0, 0, api.ErrInvalid},
		{api.Peripheral, spoilt(func(p *api.ConnParams) { p.Access = api.AdvAccess }), 501, 0, api.ErrInvalid},
		{api.Peripheral, spoilt(func(p *api.ConnParams) { p.Init = 1 << 24 }), 0, 0, api.ErrRange},
		{api.Peripheral, update, -1, -1, api.ErrMismatch},
		{api.Central, spoilt(func(p *api.ConnParams) { p.Map = 1 }), 501, 0, api.ErrInvalid},
		{api.Central, spoilt(func(p *api.ConnParams) { p.Hop = 17 }), 0, 0, api.ErrRange},
		{api.Central, spoilt(func(p *api.ConnParams) { p.PPM = 501 }), 0, 0, api.ErrRange},
		{api.Central, spoilt(func(p *api.ConnParams) { p.Algorithm = 3 }), -1, 0, api.ErrKind},
		{api.Central, good, -1, 0, api.ErrRange},
		{api.Central, good, 501, 0, api.ErrRange},
		{api.Central, good, math.MinInt, 0, api.ErrRange},
		{api.Peripheral, good, 500, -1, api.ErrRange},
		{api.Peripheral, good, 500, api.MaxTime + 1, api.ErrRange},
		{api.Peripheral, good, 0, math.MinInt, api.ErrRange},
		{api.Peripheral, good, 0, math.MaxInt, api.ErrRange},
	} {
		l, e := link.New(c.role, c.p, c.ppm, 1, 2, c.at)
		if e != c.e || e != api.OK && !same(l, api.Link{}) {
			t.Errorf("New(%d, %+v, %d, 1, 2, %d) = %+v, %v, want %v", c.role, c.p, c.ppm, c.at, l, e, c.e)
		}
	}
}

func TestP30_3ChannelIsThatOfTheEvent(t *testing.T) {
	l := with(t, api.Central, func(p *api.ConnParams) { p.Map = 33 })
	// By the sum: 7, 14, 21, 28, 35, 5, of which only 5 is in the map of the channels 0 and 5.
	for i, want := range []int{5, 0, 5, 0, 5, 5} {
		if got := link.Channel(l); got != want {
			t.Errorf("channel of the event %d: %d, want %d", i, got, want)
		}
		l, _ = closed(t, l, l.Heard)
	}
	random := rand.New(rand.NewSource(4))
	for range 2000 {
		l.Params.Algorithm, l.Params.Map = 1+random.Intn(2), 3|api.ChannelMap(random.Uint64())&api.AllChannels
		l.Event, l.Last, l.Role, l.Params.Access = uint16(random.Int()), random.Intn(37), random.Intn(2), random.Uint32()
		want, _ := hop.Next(l.Params, l.Event, l.Last)
		if got := link.Channel(l); got != want {
			t.Errorf("Channel of %+v = %d, want %d", l, got, want)
		}
	}
}

func TestP30_3Window(t *testing.T) {
	p, c := fresh(t, api.Peripheral, 0), fresh(t, api.Central, 0)
	for _, x := range []struct {
		anchor, size, sync, ppm int
		want                    api.Window
	}{
		{11250, 1250, 10000, 50, api.Window{Start: 11217, End: 12533}},
		{20000, 0, 10000, 50, api.Window{Start: 19967, End: 20033}},
		{20000, 0, 20000, 50, api.Window{Start: 19968, End: 20032}},
		{20000, 1, 20000, 50, api.Window{Start: 19967, End: 20034}},
		{30000, 2500, 12500, 0, api.Window{Start: 29967, End: 32533}},
		{1000000, 0, 0, 450, api.Window{Start: 999468, End: 1000532}},
		{1000001, 0, 0, 450, api.Window{Start: 999468, End: 1000534}},
	} {
		l := changed(p, func(l *api.Link) { l.Anchor, l.Size, l.Sync, l.Clock = x.anchor, x.size, x.sync, x.ppm })
		if w := link.Window(l); w != x.want {
			t.Errorf("Window of %+v = %v", x, w)
		}
		l = changed(c, func(l *api.Link) { l.Anchor, l.Sync, l.Clock = x.anchor, x.sync, x.ppm })
		if w := link.Window(l); w != (api.Window{Start: x.anchor, End: x.anchor}) {
			t.Errorf("Window of the central with %+v = %v", x, w)
		}
	}
}

// resting returns a peripheral that may skip events: it has heard of the central, which has acknowledged its packet.
func resting(t *testing.T, latency int) api.Link {
	t.Helper()
	x := exact(t, fresh(t, api.Central, latency).Params)
	for range 10 {
		x.events(1)
		if l := x.sides[1]; link.Skips(l) && l.Begun && !l.Listen.Full {
			return l
		}
	}
	t.Fatalf("the peripheral does not skip events: %+v", x.sides[1])
	return api.Link{}
}

func TestP30_3Skips(t *testing.T) {
	l := resting(t, 2)
	for name, change := range map[string]func(l *api.Link){
		"it has ended":              func(l *api.Link) { l.Reason = api.ReasonUser },
		"it is the central":         func(l *api.Link) { l.Role = api.Central },
		"nothing was heard":         func(l *api.Link) { l.Begun = false },
		"a control PDU waits":       func(l *api.Link) { l.Commands = []api.Control{{Kind: api.CtlPing}} },
		"a change is pending":       func(l *api.Link) { l.Procs.Pending = []api.Change{{Kind: api.CtlMap, Map: 3, Instant: 99}} },
		"a packet is in the queue":  func(l *api.Link) { l.Arq.Queue = []api.Packet{{LLID: 2, Payload: []byte{1}}} },
		"as many were skipped":      func(l *api.Link) { l.Listen.Skipped = 2 },
		"more were skipped":         func(l *api.Link) { l.Listen.Skipped = 3 },
		"latency may not be used":   func(l *api.Link) { l.Listen.Full = true },
		"there is no latency":       func(l *api.Link) { l.Listen.Latency = 0 },
		"a control PDU of encrypt.": func(l *api.Link) { l.Commands = []api.Control{{Kind: api.CtlStart}} },
	} {
		if link.Skips(changed(l, change)) {
			t.Errorf("Skips although %s", name)
		}
	}
	for name, change := range map[string]func(l *api.Link){
		"a packet arrived":           func(l *api.Link) { l.Got, l.Good, l.Acked = true, true, true },
		"an empty packet is open":    func(l *api.Link) { l.Arq.Open, l.Arq.Empty = true, true },
		"one event was skipped":      func(l *api.Link) { l.Listen.Skipped = 1 },
		"a request waits":            func(l *api.Link) { l.Procs.Waiting = []api.Control{{Kind: api.CtlPing}} },
		"a procedure is in progress": func(l *api.Link) { l.Procs.Own = api.CtlPing },
	} {
		if !link.Skips(changed(l, change)) {
			t.Errorf("does not skip although only %s", name)
		}
	}
	if link.Skips(fresh(t, api.Peripheral, 4)) || link.Skips(fresh(t, api.Central, 4)) {
		t.Error("a new side skips its first event")
	}
}

func TestR1NoStateIsTooStrange(t *testing.T) {
	times := []int{math.MinInt, -1, 0, 1, end, api.MaxTime, 4 * api.MaxTime, math.MaxInt}
	for _, l := range []api.Link{{}, fresh(t, api.Central, 3), fresh(t, api.Peripheral, 3), {Arq: api.Arq{Open: true}, Role: 9}} {
		for _, at := range times {
			for kind := -1; kind < 16; kind++ {
				link.Do(l, api.Act{Kind: kind, Key: 1, Number: math.MaxUint64, Side: -5}, at)
			}
			for _, b := range [][]byte{nil, {1}, {1, 2, 3}, make([]byte, 1000), onAir(l, api.DataPDU{NESN: 1, Packet: api.Packet{LLID: api.LLControl, Payload: []byte{5}}})} {
				s, _, _ := link.Receive(l, b, true, at)
				link.Window(s)
				s, _ = link.Close(s, -at)
				s, _ = link.Send(s)
				link.Skips(s)
				link.Channel(s)
				link.Close(s, at)
			}
		}
	}
}

func TestP30_1TheFirstEventFollowsTheRequest(t *testing.T) {
	for _, u := range updates {
		for _, role := range []int{api.Central, api.Peripheral} {
			p := usual()
			p.Update = u
			l, _ := link.New(role, p, 0, 0, 0, end)
			if w := connect.First(end, u); l.Anchor != w.Start || role == api.Peripheral && l.Anchor+l.Size != w.End {
				t.Errorf("with %+v: %d, %d, want %v", u, l.Anchor, l.Size, w)
			}
		}
	}
}
