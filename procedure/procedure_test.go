package procedure_test

import (
	"fmt"
	"math"
	"math/rand"
	"reflect"
	"slices"
	"testing"

	"wireless/api"
	"wireless/ctrlpdu"
	"wireless/procedure"
)

// Updates of the tests.
var (
	usual = api.Update{WinSize: 2, WinOffset: 3, Interval: 40, Latency: 4, Timeout: 100}
	least = api.Update{WinSize: 1, WinOffset: 0, Interval: 6, Latency: 0, Timeout: 10}
)

// requests are valid control PDUs of the kinds of the requests, as they are queued by a side with the features 5 at the event 100.
var requests = []api.Control{
	{Kind: api.CtlUpdate, Update: usual, Instant: 106},
	{Kind: api.CtlMap, Map: 33, Instant: 106},
	{Kind: api.CtlTerminate, Reason: api.ReasonUser},
	{Kind: api.CtlEncrypt, Salt: 0x1122, Mark: 0x3344},
	{Kind: api.CtlFeatures, Features: 5},
	{Kind: api.CtlVersion, Version: 11},
	{Kind: api.CtlParams, Update: least},
	{Kind: api.CtlPing},
	{Kind: api.CtlLength, Length: 60},
}

// otherKinds are kinds of control PDUs that are no requests; noKinds are numbers that are no kinds.
var (
	otherKinds = []int{api.CtlEncAnswer, api.CtlStart, api.CtlStartAnswer, api.CtlUnknown, api.CtlFeatAnswer, api.CtlReject, api.CtlPingAnswer, api.CtlLenAnswer}
	noKinds    = []int{math.MinInt, -256, -2, -1, 10, 11, 14, 16, 17, 22, 99, 254, 255, 256, 257, 274, 1 << 32, 1<<32 + 18, math.MaxInt}
)

const (
	event = 100
	now   = 5000
)

// request returns the request of a kind.
func request(kind int) api.Control {
	return requests[slices.IndexFunc(requests, func(c api.Control) bool { return c.Kind == kind })]
}

// suits reports whether a side with a role can make requests of a kind.
func suits(role, kind int) bool {
	switch kind {
	case api.CtlUpdate, api.CtlMap, api.CtlEncrypt:
		return role == api.Central
	case api.CtlParams:
		return role == api.Peripheral
	}
	return true
}

// new5 returns a new side with the features 5 and the limit 100.
func new5(role int) api.Procs {
	return procedure.New(role, 5, 100)
}

// with returns a state that was changed.
func with(s api.Procs, change func(s *api.Procs)) api.Procs {
	s.Waiting, s.Pending = slices.Clone(s.Waiting), slices.Clone(s.Pending)
	change(&s)
	return s
}

// started returns a state after requests at the usual event and time, none of which may be refused.
func started(t *testing.T, s api.Procs, l ...api.Control) api.Procs {
	t.Helper()
	for _, c := range l {
		next, _, e := procedure.Start(s, c, event, now)
		if e != api.OK {
			t.Fatalf("Start of %+v: %v", c, e)
		}
		s = next
	}
	return s
}

// handled returns a state after control PDUs that were received at the usual event and time.
func handled(s api.Procs, l ...api.Control) api.Procs {
	for _, c := range l {
		s, _, _ = procedure.Handle(s, c, event, now)
	}
	return s
}

// same reports whether two states are equal; empty lists may be nil or not.
func same(a, b api.Procs) bool {
	return reflect.DeepEqual(normal(a), normal(b))
}

func normal(s api.Procs) api.Procs {
	if len(s.Waiting) == 0 {
		s.Waiting = nil
	}
	if len(s.Pending) == 0 {
		s.Pending = nil
	}
	return s
}

func sameReports(a, b []api.Indication) bool {
	return len(a)+len(b) == 0 || reflect.DeepEqual(a, b)
}

// expectStart checks Start at the usual event and time.
func expectStart(t *testing.T, s api.Procs, c api.Control, want api.Procs, queue []api.Control, wantE api.Errno) {
	t.Helper()
	got, l, e := procedure.Start(s, c, event, now)
	if !same(got, want) || !slices.Equal(l, queue) || e != wantE {
		t.Errorf("Start(%+v, %+v)\n got %+v, %+v, %v\nwant %+v, %+v, %v", s, c, got, l, e, want, queue, wantE)
	}
}

// expectHandle checks Handle at the usual event and time.
func expectHandle(t *testing.T, s api.Procs, c api.Control, want api.Procs, queue []api.Control, reports []api.Indication) {
	t.Helper()
	got, l, r := procedure.Handle(s, c, event, now)
	if !same(got, want) || !slices.Equal(l, queue) || !sameReports(r, reports) {
		t.Errorf("Handle(%+v, %+v)\n got %+v, %+v, %+v\nwant %+v, %+v, %+v", s, c, got, l, r, want, queue, reports)
	}
}

func number(kind int, n uint64) []api.Indication {
	return []api.Indication{{Kind: kind, Number: n}}
}

func TestP28_1New(t *testing.T) {
	for role, want := range map[int]int{api.Central: api.Central, api.Peripheral: api.Peripheral, -1: api.Central, 2: api.Central, 257: api.Central, math.MinInt: api.Central, math.MaxInt: api.Central, 1<<32 + 1: api.Central} {
		for limit, wantLimit := range map[int]int{math.MinInt: 27, -1: 27, 0: 27, 26: 27, 27: 27, 28: 28, 100: 100, 250: 250, 251: 251, 252: 251, 1000: 251, 1<<32 + 30: 251, math.MaxInt: 251} {
			for _, features := range []uint64{0, 5, 63, 1 << 63, math.MaxUint64} {
				want := api.Procs{Role: want, Own: -1, Other: -1, Features: features, Version: -1, Length: 27, Limit: wantLimit}
				if got := procedure.New(role, features, limit); !same(got, want) {
					t.Errorf("New(%d, %d, %d) = %+v", role, features, limit, got)
				}
			}
		}
	}
}

func TestP28_2RequestsBegin(t *testing.T) {
	for _, role := range []int{api.Central, api.Peripheral} {
		for _, c := range requests {
			if !suits(role, c.Kind) {
				continue
			}
			want := with(new5(role), func(s *api.Procs) {
				s.Own, s.Since = c.Kind, now
				switch c.Kind {
				case api.CtlUpdate:
					s.Pending = []api.Change{{Kind: api.CtlUpdate, Instant: 106, Update: usual}}
				case api.CtlMap:
					s.Pending = []api.Change{{Kind: api.CtlMap, Instant: 106, Map: 33}}
				case api.CtlEncrypt:
					s.Salt, s.Mark, s.Crypt = 0x1122, 0x3344, api.CryptAsked
				case api.CtlVersion:
					s.VersionTx = true
				case api.CtlLength:
					s.Limit = 60
				}
			})
			expectStart(t, new5(role), c, want, []api.Control{c}, api.OK)
		}
	}
}

func TestP28_2TheSideCompletesItsRequests(t *testing.T) {
	s := new5(api.Central)
	for _, c := range []struct{ given, want api.Control }{
		{api.Control{Kind: api.CtlFeatures, Features: 99}, request(api.CtlFeatures)}, {api.Control{Kind: api.CtlFeatures}, request(api.CtlFeatures)},
		{api.Control{Kind: api.CtlVersion}, request(api.CtlVersion)}, {api.Control{Kind: api.CtlVersion, Version: 12}, request(api.CtlVersion)}, {api.Control{Kind: api.CtlVersion, Version: 256}, request(api.CtlVersion)}, {api.Control{Kind: api.CtlVersion, Version: -1}, request(api.CtlVersion)},
		{api.Control{Kind: api.CtlUpdate, Update: usual}, request(api.CtlUpdate)}, {api.Control{Kind: api.CtlUpdate, Update: usual, Instant: 65535}, request(api.CtlUpdate)},
		{api.Control{Kind: api.CtlMap, Map: 33}, request(api.CtlMap)}, {api.Control{Kind: api.CtlMap, Map: 33, Instant: 7}, request(api.CtlMap)},
	} {
		if _, l, e := procedure.Start(s, c.given, event, now); e != api.OK || !slices.Equal(l, []api.Control{c.want}) {
			t.Errorf("Start of %+v queues %+v, %v", c.given, l, e)
		}
		// So does a request that waits, whose instant is not known yet.
		waiting := c.want
		waiting.Instant = 0
		busy := started(t, s, request(api.CtlPing))
		expectStart(t, busy, c.given, with(busy, func(s *api.Procs) { s.Waiting = []api.Control{waiting} }), nil, api.OK)
	}
	// Instants are planned without the latency and wrap around.
	for at, want := range map[uint16]uint16{0: 6, 65529: 65535, 65530: 0, 65535: 5, 32767: 32773} {
		for _, c := range []api.Control{request(api.CtlUpdate), request(api.CtlMap)} {
			got, l, e := procedure.Start(s, c, at, now)
			if e != api.OK || len(l) != 1 || l[0].Instant != want || len(got.Pending) != 1 || got.Pending[0].Instant != want {
				t.Errorf("Start of %+v at %d: %+v, %+v, %v", c, at, got, l, e)
			}
		}
	}
}

func TestP28_2AnUpdateGrantsWhatTheOtherSideAskedFor(t *testing.T) {
	asked := handled(new5(api.Central), request(api.CtlParams))
	if asked.Other != api.CtlParams {
		t.Fatalf("after CtlParams: %+v", asked)
	}
	for _, c := range requests {
		if !suits(api.Central, c.Kind) {
			continue
		}
		want := api.CtlParams
		if c.Kind == api.CtlUpdate {
			want = -1
		}
		if got := started(t, asked, c); got.Other != want {
			t.Errorf("after Start of %+v: %+v", c, got)
		}
	}
	if got := started(t, with(asked, func(s *api.Procs) { s.Other = api.CtlFeatures }), request(api.CtlUpdate)); got.Other != api.CtlFeatures {
		t.Errorf("another procedure of the other side: %+v", got)
	}
}

func TestP28_2StartRejectsOtherKinds(t *testing.T) {
	for _, role := range []int{api.Central, api.Peripheral} {
		for _, kind := range append(slices.Clone(otherKinds), noKinds...) {
			for _, s := range []api.Procs{new5(role), with(new5(role), func(s *api.Procs) { s.Ended = api.ReasonUser }), started(t, new5(role), request(api.CtlTerminate))} {
				for _, c := range []api.Control{{Kind: kind}, {Kind: kind, Reason: -1, Length: 5}, {Kind: kind, Length: 60, Version: 11}} {
					expectStart(t, s, c, s, nil, api.ErrKind)
				}
			}
		}
	}
}

func TestP28_2StartReturnsTheErrorOfCheck(t *testing.T) {
	wrong := []struct {
		c api.Control
		e api.Errno
	}{
		{api.Control{Kind: api.CtlUpdate}, api.ErrRange}, {api.Control{Kind: api.CtlUpdate, Update: api.Update{WinSize: 6, Interval: 6, Timeout: 100}}, api.ErrMismatch}, {api.Control{Kind: api.CtlUpdate, Update: usual, Map: 33}, api.ErrInvalid},
		{api.Control{Kind: api.CtlMap}, api.ErrInvalid}, {api.Control{Kind: api.CtlMap, Map: 1 << 37}, api.ErrRange}, {api.Control{Kind: api.CtlMap, Map: 33, Reason: 1}, api.ErrInvalid},
		{api.Control{Kind: api.CtlTerminate, Reason: 256}, api.ErrRange}, {api.Control{Kind: api.CtlTerminate, Reason: -1}, api.ErrRange}, {api.Control{Kind: api.CtlTerminate, Instant: 1}, api.ErrInvalid},
		{api.Control{Kind: api.CtlEncrypt, Instant: 1}, api.ErrInvalid}, {api.Control{Kind: api.CtlEncrypt, Features: 5}, api.ErrInvalid},
		{api.Control{Kind: api.CtlFeatures, Version: 11}, api.ErrInvalid}, {api.Control{Kind: api.CtlFeatures, Instant: 1}, api.ErrInvalid},
		{api.Control{Kind: api.CtlVersion, Features: 5}, api.ErrInvalid}, {api.Control{Kind: api.CtlVersion, Instant: 1}, api.ErrInvalid},
		{api.Control{Kind: api.CtlParams, Update: usual, Instant: 1}, api.ErrInvalid}, {api.Control{Kind: api.CtlParams}, api.ErrRange},
		{api.Control{Kind: api.CtlPing, Version: 11}, api.ErrInvalid}, {api.Control{Kind: api.CtlPing, Features: 5}, api.ErrInvalid}, {api.Control{Kind: api.CtlPing, Instant: 1}, api.ErrInvalid},
		{api.Control{Kind: api.CtlLength}, api.ErrRange}, {api.Control{Kind: api.CtlLength, Length: 26}, api.ErrRange}, {api.Control{Kind: api.CtlLength, Length: 252}, api.ErrRange}, {api.Control{Kind: api.CtlLength, Length: 60, Version: 11}, api.ErrInvalid},
	}
	for _, role := range []int{api.Central, api.Peripheral} {
		full := started(t, new5(role), slices.Repeat([]api.Control{request(api.CtlPing)}, 9)...)
		ended := with(new5(role), func(s *api.Procs) { s.Ended = api.ReasonUser })
		sent := started(t, new5(role), request(api.CtlVersion))
		encrypted := with(new5(role), func(s *api.Procs) { s.Crypt = api.CryptOn })
		// This is found before anything that is wrong with the state.
		for _, s := range []api.Procs{new5(role), full, ended, sent, encrypted, started(t, new5(role), request(api.CtlTerminate))} {
			for _, c := range wrong {
				expectStart(t, s, c.c, s, nil, c.e)
			}
		}
	}
}

func TestP28_2StartNeedsTheState(t *testing.T) {
	for _, role := range []int{api.Central, api.Peripheral} {
		versionSent := started(t, new5(role), request(api.CtlVersion))
		for _, base := range []api.Procs{new5(role), versionSent, started(t, new5(role), slices.Repeat([]api.Control{request(api.CtlPing)}, 9)...)} {
			for _, c := range requests {
				for _, reason := range []int{1, api.ReasonHost, 255} {
					s := with(base, func(s *api.Procs) { s.Ended = reason })
					expectStart(t, s, c, s, nil, api.ErrState)
				}
				s := started(t, base, api.Control{Kind: api.CtlTerminate, Reason: 7})
				expectStart(t, s, c, s, nil, api.ErrState)
				if !suits(role, c.Kind) {
					expectStart(t, base, c, base, nil, api.ErrState)
				}
			}
		}
	}
}

func TestP28_2EncryptionBeginsOnce(t *testing.T) {
	c := request(api.CtlEncrypt)
	for crypt, want := range map[int]api.Errno{api.CryptOff: api.OK, api.CryptAsked: api.ErrState, api.CryptSalted: api.ErrState, api.CryptStarted: api.ErrState, api.CryptOn: api.ErrState} {
		s := with(new5(api.Central), func(s *api.Procs) { s.Crypt = crypt })
		if _, _, e := procedure.Start(s, c, event, now); e != want {
			t.Errorf("Start in the phase %d: %v", crypt, e)
		}
	}
	waiting := started(t, new5(api.Central), request(api.CtlPing), request(api.CtlLength), c, request(api.CtlFeatures))
	expectStart(t, waiting, c, waiting, nil, api.ErrState)
	full := started(t, waiting, slices.Repeat([]api.Control{request(api.CtlPing)}, 5)...)
	expectStart(t, full, c, full, nil, api.ErrState)
	// The encryption that was begun is the own procedure, not one that waits.
	other := started(t, new5(api.Central), c, request(api.CtlPing))
	expectStart(t, other, c, other, nil, api.ErrState)
}

func TestP28_2VersionsAreNotSentAgain(t *testing.T) {
	for _, role := range []int{api.Central, api.Peripheral} {
		sent := started(t, new5(role), request(api.CtlVersion))
		answered := handled(new5(role), api.Control{Kind: api.CtlVersion, Version: 3})
		full := started(t, sent, slices.Repeat([]api.Control{request(api.CtlPing)}, 8)...)
		for _, s := range []api.Procs{sent, answered, full} {
			if !s.VersionTx {
				t.Errorf("the version was not sent: %+v", s)
			}
			expectStart(t, s, request(api.CtlVersion), s, nil, api.OK)
			expectStart(t, s, api.Control{Kind: api.CtlVersion}, s, nil, api.OK)
		}
	}
}

func TestP28_2TerminationDoesNotWait(t *testing.T) {
	c := api.Control{Kind: api.CtlTerminate, Reason: 7}
	for _, role := range []int{api.Central, api.Peripheral} {
		busy := started(t, new5(role), slices.Repeat([]api.Control{request(api.CtlPing)}, 9)...)
		queued := with(new5(role), func(s *api.Procs) { s.Waiting = []api.Control{request(api.CtlPing)} })
		pending := with(new5(role), func(s *api.Procs) { s.Pending = []api.Change{{Kind: api.CtlMap, Instant: 200, Map: 33}} })
		asked := with(new5(role), func(s *api.Procs) { s.Own, s.Crypt = api.CtlEncrypt, api.CryptAsked })
		for _, s := range []api.Procs{new5(role), busy, queued, pending, asked} {
			expectStart(t, s, c, with(s, func(s *api.Procs) { s.Own, s.Since, s.Waiting = api.CtlTerminate, now, nil }), []api.Control{c}, api.OK)
		}
	}
}

func TestP28_2RequestsWait(t *testing.T) {
	for _, role := range []int{api.Central, api.Peripheral} {
		for _, c := range requests {
			if !suits(role, c.Kind) || c.Kind == api.CtlTerminate {
				continue
			}
			waiting := c
			waiting.Instant = 0
			own := with(new5(role), func(s *api.Procs) { s.Own, s.Since = api.CtlPing, 4000 })
			others := with(new5(role), func(s *api.Procs) { s.Waiting = []api.Control{request(api.CtlPing)} })
			seven := with(own, func(s *api.Procs) { s.Waiting = slices.Repeat([]api.Control{request(api.CtlPing)}, 7) })
			for _, s := range []api.Procs{own, others, seven} {
				expectStart(t, s, c, with(s, func(s *api.Procs) { s.Waiting = append(s.Waiting, waiting) }), nil, api.OK)
			}
			eight := with(own, func(s *api.Procs) { s.Waiting = slices.Repeat([]api.Control{request(api.CtlPing)}, 8) })
			idle := with(eight, func(s *api.Procs) { s.Own = -1 })
			for _, s := range []api.Procs{eight, idle} {
				expectStart(t, s, c, s, nil, api.ErrFull)
			}
			// The procedure of the other side does not keep it from beginning; a pending change does, if it is a change itself.
			other := with(new5(role), func(s *api.Procs) { s.Other = api.CtlFeatures })
			if got, l, e := procedure.Start(other, c, event, now); e != api.OK || len(l) != 1 || got.Own != c.Kind {
				t.Errorf("beside the procedure of the other side: %+v, %+v, %v", got, l, e)
			}
			pending := with(new5(role), func(s *api.Procs) { s.Pending = []api.Change{{Kind: api.CtlMap, Instant: 200, Map: 33}} })
			got, l, e := procedure.Start(pending, c, event, now)
			if changes := c.Kind == api.CtlUpdate || c.Kind == api.CtlMap; e != api.OK || changes != (len(l) == 0) || changes != slices.Equal(got.Waiting, []api.Control{waiting}) || !slices.Equal(got.Pending, pending.Pending) {
				t.Errorf("with a pending change: %+v, %+v, %v", got, l, e)
			}
		}
	}
}

// expectReady checks Ready at the usual event and time.
func expectReady(t *testing.T, s, want api.Procs, queue ...api.Control) {
	t.Helper()
	got, l := procedure.Ready(s, event, now)
	if !same(got, want) || !slices.Equal(l, queue) {
		t.Errorf("Ready(%+v)\n got %+v, %+v\nwant %+v, %+v", s, got, l, want, queue)
	}
}

func TestP28_3WaitingRequestsBegin(t *testing.T) {
	for _, role := range []int{api.Central, api.Peripheral} {
		for _, c := range requests {
			if !suits(role, c.Kind) || c.Kind == api.CtlTerminate {
				continue
			}
			// What begins is what Start of the same request would begin, at the event and the time of Ready.
			waiting := c
			waiting.Instant = 0
			s := with(new5(role), func(s *api.Procs) { s.Waiting = []api.Control{waiting, request(api.CtlPing)} })
			want := with(started(t, new5(role), c), func(s *api.Procs) { s.Waiting = []api.Control{request(api.CtlPing)} })
			expectReady(t, s, want, c)
			expectReady(t, want, want)
		}
	}
	expectReady(t, new5(api.Central), new5(api.Central))
	later, l := procedure.Ready(with(new5(api.Central), func(s *api.Procs) { s.Waiting = []api.Control{{Kind: api.CtlMap, Map: 33}} }), 65535, 7000)
	if later.Since != 7000 || !slices.Equal(l, []api.Control{{Kind: api.CtlMap, Map: 33, Instant: 5}}) || !slices.Equal(later.Pending, []api.Change{{Kind: api.CtlMap, Map: 33, Instant: 5}}) {
		t.Errorf("Ready at 65535: %+v, %+v", later, l)
	}
}

func TestP28_3WhatKeepsRequestsWaiting(t *testing.T) {
	for _, c := range requests {
		c.Instant = 0
		s := with(new5(api.Central), func(s *api.Procs) { s.Waiting = []api.Control{c, request(api.CtlPing)} })
		for _, blocked := range []api.Procs{with(s, func(s *api.Procs) { s.Ended = api.ReasonHost }), with(s, func(s *api.Procs) { s.Own = api.CtlLength }), with(s, func(s *api.Procs) { s.Own = api.CtlUpdate }), with(s, func(s *api.Procs) { s.Own, s.VersionTx, s.Crypt = api.CtlTerminate, true, api.CryptOn }), with(s, func(s *api.Procs) { s.Ended, s.VersionTx, s.Crypt = 1, true, api.CryptOn })} {
			expectReady(t, blocked, blocked)
		}
		pending := with(s, func(s *api.Procs) { s.Pending = []api.Change{{Kind: api.CtlUpdate, Instant: 101}} })
		if c.Kind == api.CtlUpdate || c.Kind == api.CtlMap {
			expectReady(t, pending, pending)
		} else if got, l := procedure.Ready(pending, event, now); len(l) != 1 || got.Own != c.Kind || len(got.Pending) != 1 {
			t.Errorf("with a pending change: %+v, %+v", got, l)
		}
	}
}

func TestP28_3WhatIsSettledIsOnlyRemoved(t *testing.T) {
	ping, version, crypt := request(api.CtlPing), request(api.CtlVersion), request(api.CtlEncrypt)
	sent := func(s *api.Procs) { s.VersionTx, s.Crypt = true, api.CryptOn }
	for _, c := range []struct{ waiting, rest, queue []api.Control }{
		{[]api.Control{version}, nil, nil}, {[]api.Control{crypt}, nil, nil}, {[]api.Control{version, crypt, version}, nil, nil},
		{[]api.Control{version, crypt, ping, version}, []api.Control{version}, []api.Control{ping}}, {[]api.Control{ping, version}, []api.Control{version}, []api.Control{ping}},
	} {
		s := with(with(new5(api.Central), sent), func(s *api.Procs) { s.Waiting = c.waiting })
		want := with(s, func(s *api.Procs) {
			s.Waiting = c.rest
			if len(c.queue) > 0 {
				s.Own, s.Since = api.CtlPing, now
			}
		})
		expectReady(t, s, want, c.queue...)
	}
	for phase := api.CryptAsked; phase <= api.CryptOn; phase++ {
		s := with(new5(api.Central), func(s *api.Procs) { s.Crypt, s.Waiting = phase, []api.Control{crypt} })
		expectReady(t, s, with(s, func(s *api.Procs) { s.Waiting = nil }))
	}
	// Of two versions that wait, the first one begins, and the second one is removed later.
	s := with(new5(api.Central), func(s *api.Procs) { s.Waiting = []api.Control{version, version, ping} })
	s, l := procedure.Ready(s, event, now)
	if !slices.Equal(l, []api.Control{version}) || !slices.Equal(s.Waiting, []api.Control{version, ping}) {
		t.Errorf("two versions: %+v, %+v", s, l)
	}
	expectReady(t, handled(s, api.Control{Kind: api.CtlVersion, Version: 3}), with(s, func(s *api.Procs) { s.Waiting, s.Own, s.Version = nil, api.CtlPing, 3 }), ping)
	// A change that waits at the head keeps those behind it waiting.
	s = with(new5(api.Central), func(s *api.Procs) {
		s.Pending, s.Waiting = []api.Change{{Kind: api.CtlMap, Instant: 101}}, []api.Control{{Kind: api.CtlMap, Map: 33}, ping}
	})
	expectReady(t, s, s)
}

func TestP28_4ChangesAtThePeripheral(t *testing.T) {
	for _, c := range []api.Control{request(api.CtlUpdate), request(api.CtlMap)} {
		change := api.Change{Kind: c.Kind, Instant: c.Instant, Update: c.Update, Map: c.Map}
		pends := func(s *api.Procs) { s.Pending, s.Other, s.OtherTime = []api.Change{change}, c.Kind, now }
		for _, own := range []int{-1, api.CtlPing, api.CtlParams, api.CtlTerminate, api.CtlFeatures} {
			s := with(new5(api.Peripheral), func(s *api.Procs) { s.Own, s.Since = own, 4000 })
			want := with(s, pends)
			if own == api.CtlParams && c.Kind == api.CtlUpdate {
				want.Own = -1
			}
			expectHandle(t, s, c, want, nil, nil)
		}
		s := new5(api.Peripheral)
		for _, instant := range []uint16{100, 99, 0, 65535, 32869} {
			late := c
			late.Instant = instant
			expectHandle(t, s, late, with(s, func(s *api.Procs) { s.Ended = api.ReasonInstant }), nil, nil)
			busy := with(s, func(s *api.Procs) { s.Pending = []api.Change{{Kind: api.CtlMap, Instant: 101}} })
			expectHandle(t, busy, late, with(busy, func(s *api.Procs) { s.Ended = api.ReasonInstant }), nil, nil)
		}
		for _, instant := range []uint16{101, 106, 32868} {
			c := c
			c.Instant = instant
			for _, kind := range []int{api.CtlUpdate, api.CtlMap} {
				busy := with(s, func(s *api.Procs) {
					s.Own, s.Other, s.Pending = api.CtlParams, kind, []api.Change{{Kind: kind, Instant: 101}}
				})
				expectHandle(t, busy, c, with(busy, func(s *api.Procs) { s.Ended = api.ReasonCollision }), nil, nil)
			}
			got := handled(s, c)
			if got.Ended != 0 || len(got.Pending) != 1 || got.Pending[0].Instant != instant {
				t.Errorf("with the instant %d: %+v", instant, got)
			}
		}
		for _, central := range []api.Procs{new5(api.Central), started(t, new5(api.Central), request(api.CtlMap)), started(t, new5(api.Central), request(api.CtlPing))} {
			expectHandle(t, central, c, central, nil, nil)
		}
	}
}

func TestP28_4Terminate(t *testing.T) {
	for _, role := range []int{api.Central, api.Peripheral} {
		for _, s := range []api.Procs{new5(role), started(t, new5(role), request(api.CtlTerminate)), started(t, new5(role), request(api.CtlPing), request(api.CtlLength))} {
			for reason, want := range map[int]int{0: api.ReasonUser, 1: 1, api.ReasonHost: api.ReasonHost, 255: 255, api.ReasonUser: api.ReasonUser} {
				expectHandle(t, s, api.Control{Kind: api.CtlTerminate, Reason: reason}, with(s, func(s *api.Procs) { s.Ended = want }), nil, nil)
			}
		}
	}
}

func TestP28_4NothingHappensAfterTheEnd(t *testing.T) {
	for _, role := range []int{api.Central, api.Peripheral} {
		for _, c := range append(inputs(), api.Control{Kind: 99}, api.Control{Kind: -1}) {
			for crypt := api.CryptOff; crypt <= api.CryptOn; crypt++ {
				for _, own := range []int{-1, api.CtlEncrypt, api.CtlFeatures, api.CtlVersion, api.CtlPing, api.CtlLength, api.CtlParams} {
					s := with(new5(role), func(s *api.Procs) { s.Ended, s.Crypt, s.Own = 1+crypt, crypt, own })
					expectHandle(t, s, c, s, nil, nil)
				}
			}
		}
	}
}

func TestP28_4Encryption(t *testing.T) {
	ask, answer := request(api.CtlEncrypt), api.Control{Kind: api.CtlEncAnswer, Salt: 0x5566}
	start, startAnswer := api.Control{Kind: api.CtlStart}, api.Control{Kind: api.CtlStartAnswer}
	for phase := api.CryptOff; phase <= api.CryptOn; phase++ {
		for _, role := range []int{api.Central, api.Peripheral} {
			s := with(new5(role), func(s *api.Procs) {
				s.Crypt, s.Salt, s.Peer, s.Mark, s.Own, s.Other = phase, 1, 2, 3, api.CtlEncrypt, api.CtlFeatures
			})
			at := func(wantRole, wantPhase int) bool { return role == wantRole && phase == wantPhase }
			// What a control PDU does where it belongs; elsewhere it does nothing.
			check := func(c api.Control, belongs bool, change func(s *api.Procs), queue []api.Control, reports []api.Indication) {
				t.Helper()
				if !belongs {
					change, queue, reports = func(s *api.Procs) {}, nil, nil
				}
				expectHandle(t, s, c, with(s, change), queue, reports)
			}
			check(ask, at(api.Peripheral, api.CryptOff), func(s *api.Procs) {
				s.Peer, s.Mark, s.Crypt, s.Other, s.OtherTime = 0x1122, 0x3344, api.CryptAsked, api.CtlEncrypt, now
			}, nil, number(api.IndKey, 0x3344))
			check(answer, at(api.Central, api.CryptAsked), func(s *api.Procs) { s.Peer, s.Crypt = 0x5566, api.CryptSalted }, nil, nil)
			check(start, at(api.Central, api.CryptSalted), func(s *api.Procs) { s.Crypt = api.CryptStarted }, []api.Control{startAnswer}, nil)
			if role == api.Central {
				check(startAnswer, phase == api.CryptStarted, func(s *api.Procs) { s.Crypt, s.Own = api.CryptOn, -1 }, nil, number(api.IndEncrypted, 0))
			} else {
				check(startAnswer, phase == api.CryptStarted, func(s *api.Procs) { s.Crypt, s.Other = api.CryptOn, -1 }, []api.Control{startAnswer}, number(api.IndEncrypted, 0))
			}
		}
	}
}

func TestP28_4Rejections(t *testing.T) {
	for _, role := range []int{api.Central, api.Peripheral} {
		for _, own := range append([]int{-1}, kindsOf(requests)...) {
			s := with(new5(role), func(s *api.Procs) { s.Own, s.Since, s.Crypt, s.VersionTx = own, 4000, api.CryptSalted, true })
			for rejected := range 256 {
				for _, c := range []api.Control{{Kind: api.CtlUnknown, Rejected: rejected}, {Kind: api.CtlReject, Rejected: rejected, Reason: rejected % 7}} {
					want, reports := s, []api.Indication(nil)
					if own == rejected && own != api.CtlUpdate && own != api.CtlMap && own != api.CtlTerminate {
						want, reports = with(s, func(s *api.Procs) { s.Own = -1 }), number(api.IndReject, uint64(own))
						if own == api.CtlEncrypt {
							want.Crypt = api.CryptOff
						}
					}
					expectHandle(t, s, c, want, nil, reports)
				}
			}
		}
	}
}

func TestP28_4Features(t *testing.T) {
	for _, role := range []int{api.Central, api.Peripheral} {
		for _, own := range append([]int{-1}, kindsOf(requests)...) {
			for _, n := range []struct{ own, other, common uint64 }{{6, 3, 2}, {63, 63, 63}, {0, 5, 0}, {math.MaxUint64, 1<<63 | 1, 1<<63 | 1}} {
				s := with(procedure.New(role, n.own, 100), func(s *api.Procs) { s.Own, s.Since, s.Common = own, 4000, 99 })
				known := with(s, func(s *api.Procs) { s.Common, s.Known = n.common, true })
				expectHandle(t, s, api.Control{Kind: api.CtlFeatures, Features: n.other}, known, []api.Control{{Kind: api.CtlFeatAnswer, Features: n.own}}, number(api.IndFeatures, n.common))
				answer := api.Control{Kind: api.CtlFeatAnswer, Features: n.other}
				if own == api.CtlFeatures {
					expectHandle(t, s, answer, with(known, func(s *api.Procs) { s.Own = -1 }), nil, number(api.IndFeatures, n.common))
				} else {
					expectHandle(t, s, answer, s, nil, nil)
				}
			}
		}
	}
}

func TestP28_4Versions(t *testing.T) {
	for _, role := range []int{api.Central, api.Peripheral} {
		for _, own := range append([]int{-1}, kindsOf(requests)...) {
			for _, sent := range []bool{false, true} {
				for _, version := range []int{0, 11, 12, 255} {
					s := with(new5(role), func(s *api.Procs) { s.Own, s.Since, s.VersionTx = own, 4000, sent })
					want := with(s, func(s *api.Procs) { s.Version = version })
					var queue []api.Control
					if own == api.CtlVersion {
						want.Own = -1
					} else if !sent {
						want.VersionTx, queue = true, []api.Control{{Kind: api.CtlVersion, Version: 11}}
					}
					expectHandle(t, s, api.Control{Kind: api.CtlVersion, Version: version}, want, queue, number(api.IndVersion, uint64(version)))
				}
			}
		}
	}
}

func TestP28_4Params(t *testing.T) {
	c := request(api.CtlParams)
	for _, own := range append([]int{-1}, kindsOf(requests)...) {
		s := with(new5(api.Central), func(s *api.Procs) { s.Own, s.Since, s.Other = own, 4000, api.CtlFeatures })
		if own == api.CtlUpdate || own == api.CtlMap {
			expectHandle(t, s, c, s, []api.Control{{Kind: api.CtlReject, Reason: api.ReasonCollision, Rejected: api.CtlParams}}, nil)
		} else {
			expectHandle(t, s, c, with(s, func(s *api.Procs) { s.Other, s.OtherTime = api.CtlParams, now }), nil, []api.Indication{{Kind: api.IndParams, Update: least}})
		}
		s = with(new5(api.Peripheral), func(s *api.Procs) { s.Own = own })
		expectHandle(t, s, c, s, nil, nil)
	}
}

func TestP28_4Pings(t *testing.T) {
	for _, role := range []int{api.Central, api.Peripheral} {
		for _, own := range append([]int{-1}, kindsOf(requests)...) {
			s := with(new5(role), func(s *api.Procs) { s.Own, s.Since = own, 4000 })
			expectHandle(t, s, api.Control{Kind: api.CtlPing}, s, []api.Control{{Kind: api.CtlPingAnswer}}, nil)
			if own == api.CtlPing {
				expectHandle(t, s, api.Control{Kind: api.CtlPingAnswer}, with(s, func(s *api.Procs) { s.Own = -1 }), nil, number(api.IndPing, 0))
			} else {
				expectHandle(t, s, api.Control{Kind: api.CtlPingAnswer}, s, nil, nil)
			}
		}
	}
}

func TestP28_4Lengths(t *testing.T) {
	for _, role := range []int{api.Central, api.Peripheral} {
		for _, own := range append([]int{-1}, kindsOf(requests)...) {
			for _, n := range []struct{ limit, other, length int }{{60, 251, 60}, {251, 60, 60}, {27, 251, 27}, {251, 27, 27}, {251, 251, 251}, {100, 99, 99}, {100, 101, 100}} {
				s := with(procedure.New(role, 5, n.limit), func(s *api.Procs) { s.Own, s.Since, s.Length = own, 4000, 44 })
				agreed := with(s, func(s *api.Procs) { s.Length = n.length })
				expectHandle(t, s, api.Control{Kind: api.CtlLength, Length: n.other}, agreed, []api.Control{{Kind: api.CtlLenAnswer, Length: n.limit}}, number(api.IndLength, uint64(n.length)))
				answer := api.Control{Kind: api.CtlLenAnswer, Length: n.other}
				if own == api.CtlLength {
					expectHandle(t, s, answer, with(agreed, func(s *api.Procs) { s.Own = -1 }), nil, number(api.IndLength, uint64(n.length)))
				} else {
					expectHandle(t, s, answer, s, nil, nil)
				}
			}
		}
	}
}

func TestP28_4UnknownKinds(t *testing.T) {
	for _, role := range []int{api.Central, api.Peripheral} {
		for _, s := range []api.Procs{new5(role), started(t, new5(role), request(api.CtlPing), request(api.CtlLength))} {
			for kind, want := range map[int]int{10: 10, 11: 11, 14: 14, 16: 16, 17: 17, 22: 22, 99: 99, 254: 254, 255: 255, 256: 255, 1000: 255, 1<<32 + 5: 255, math.MaxInt: 255, -1: 0, -256: 0, math.MinInt: 0} {
				// The fields of what is not known do not matter.
				for _, c := range []api.Control{{Kind: kind}, {Kind: kind, Rejected: 7, Length: -1, Reason: 1000, Map: 1}} {
					expectHandle(t, s, c, s, []api.Control{{Kind: api.CtlUnknown, Rejected: want}}, nil)
				}
			}
		}
	}
}

func TestP28_5Answer(t *testing.T) {
	for _, role := range []int{api.Central, api.Peripheral} {
		for phase := api.CryptOff; phase <= api.CryptOn; phase++ {
			for _, ended := range []int{0, 1, api.ReasonUser} {
				for _, salt := range []uint64{0, 0x7788, math.MaxUint64} {
					s := with(new5(role), func(s *api.Procs) {
						s.Crypt, s.Ended, s.Salt, s.Peer, s.Mark, s.Other, s.OtherTime, s.Own = phase, ended, 1, 2, 3, api.CtlEncrypt, 4000, api.CtlPing
					})
					found, queue := s, []api.Control(nil)
					missing, refused := s, []api.Control(nil)
					if role == api.Peripheral && phase == api.CryptAsked && ended == 0 {
						found, queue = with(s, func(s *api.Procs) { s.Salt, s.Crypt = salt, api.CryptStarted }), []api.Control{{Kind: api.CtlEncAnswer, Salt: salt}, {Kind: api.CtlStart}}
						missing, refused = with(s, func(s *api.Procs) { s.Crypt, s.Other = api.CryptOff, -1 }), []api.Control{{Kind: api.CtlReject, Reason: api.ReasonKey, Rejected: api.CtlEncrypt}}
					}
					if got, l := procedure.Answer(s, true, salt); !same(got, found) || !slices.Equal(l, queue) {
						t.Errorf("Answer(%+v, true, %d) = %+v, %+v", s, salt, got, l)
					}
					if got, l := procedure.Answer(s, false, salt); !same(got, missing) || !slices.Equal(l, refused) {
						t.Errorf("Answer(%+v, false, %d) = %+v, %+v", s, salt, got, l)
					}
				}
			}
		}
	}
}

func TestP28_6Sent(t *testing.T) {
	for _, role := range []int{api.Central, api.Peripheral} {
		for _, own := range append([]int{-1}, kindsOf(requests)...) {
			for _, ended := range []int{0, api.ReasonUser} {
				s := with(new5(role), func(s *api.Procs) { s.Own, s.Since, s.Ended = own, 4000, ended })
				for _, c := range append(inputs(), api.Control{Kind: 99}, api.Control{Kind: -1}, api.Control{Kind: math.MinInt}) {
					want := s
					if own == c.Kind && c.Kind == api.CtlTerminate && ended == 0 {
						want.Ended = api.ReasonHost
					}
					if own == c.Kind && (c.Kind == api.CtlUpdate || c.Kind == api.CtlMap) {
						want.Told = true
					}
					if got, reports := procedure.Sent(s, c); !same(got, want) || len(reports) != 0 {
						t.Errorf("Sent(%+v, %+v) = %+v, %+v", s, c, got, reports)
					}
				}
			}
		}
	}
}

func TestP28_7Due(t *testing.T) {
	for _, kind := range []int{api.CtlUpdate, api.CtlMap} {
		change := api.Change{Kind: kind, Instant: 106, Update: usual, Map: 33}
		for _, role := range []int{api.Central, api.Peripheral} {
			for _, told := range []bool{false, true} {
				for _, ended := range []int{0, api.ReasonUser} {
					for _, own := range []int{-1, api.CtlUpdate, api.CtlMap, api.CtlPing} {
						for _, other := range []int{-1, api.CtlUpdate, api.CtlMap, api.CtlParams} {
							s := with(new5(role), func(s *api.Procs) {
								s.Told, s.Ended, s.Own, s.Other, s.Pending = told, ended, own, other, []api.Change{change}
							})
							for at, come := range map[uint16]bool{100: false, 105: false, 106: true, 107: true, 32873: true, 32874: false} {
								want, due := s, []api.Change(nil)
								switch {
								case come && role == api.Central && !told:
									want = with(s, func(s *api.Procs) { s.Pending = nil })
									if ended == 0 {
										want.Ended = api.ReasonInstant
									}
								case come:
									want, due = with(s, func(s *api.Procs) { s.Pending = nil }), []api.Change{change}
									if own == kind {
										want.Own = -1
									}
									if other == kind {
										want.Other = -1
									}
								}
								if got, l := procedure.Due(s, at); !same(got, want) || !slices.Equal(l, due) {
									t.Errorf("Due(%+v, %d)\n got %+v, %+v\nwant %+v, %+v", s, at, got, l, want, due)
								}
							}
						}
					}
				}
			}
		}
	}
	for _, s := range []api.Procs{new5(api.Central), new5(api.Peripheral), started(t, new5(api.Central), request(api.CtlPing))} {
		if got, l := procedure.Due(s, event); !same(got, s) || len(l) != 0 {
			t.Errorf("Due(%+v) = %+v, %+v", s, got, l)
		}
	}
}

func TestP28_7TheCentralMustHaveToldTheOtherSide(t *testing.T) {
	s := started(t, new5(api.Central), request(api.CtlMap))
	told, _ := procedure.Sent(s, request(api.CtlMap))
	if got, l := procedure.Due(told, 106); len(l) != 1 || got.Own != -1 || got.Ended != 0 {
		t.Errorf("Due = %+v, %+v", got, l)
	}
	// That it was told of an earlier change does not count.
	done, _ := procedure.Due(told, 106)
	again, _, _ := procedure.Start(done, request(api.CtlUpdate), 200, now)
	if again.Told || len(again.Pending) != 1 {
		t.Errorf("a second change: %+v", again)
	}
	if got, l := procedure.Due(again, 206); len(l) != 0 || got.Ended != api.ReasonInstant || len(got.Pending) != 0 {
		t.Errorf("Due of the second change = %+v, %+v", got, l)
	}
}

func TestP28_8Quiet(t *testing.T) {
	for _, role := range []int{api.Central, api.Peripheral} {
		for phase, want := range map[int]bool{api.CryptOff: false, api.CryptAsked: true, api.CryptSalted: true, api.CryptStarted: true, api.CryptOn: false} {
			for _, own := range []int{-1, api.CtlEncrypt, api.CtlPing} {
				s := with(new5(role), func(s *api.Procs) { s.Crypt, s.Own = phase, own })
				if got := procedure.Quiet(s); got != want {
					t.Errorf("Quiet(%+v) = %t", s, got)
				}
			}
		}
	}
}

func TestP28_8Expired(t *testing.T) {
	const since = 123456
	for _, kind := range append([]int{-1}, kindsOf(requests)...) {
		counts := kind != -1 && kind != api.CtlUpdate && kind != api.CtlMap
		own := with(new5(api.Central), func(s *api.Procs) { s.Own, s.Since = kind, since })
		other := with(new5(api.Central), func(s *api.Procs) { s.Other, s.OtherTime = kind, since })
		both := with(own, func(s *api.Procs) { s.Other, s.OtherTime = api.CtlParams, since+50 })
		for _, c := range []struct {
			s    api.Procs
			now  int
			want bool
		}{
			{own, since, false}, {own, since + api.ProcTimeout, false}, {own, since + api.ProcTimeout + 1, counts}, {own, 4 * api.MaxTime, counts},
			{other, since, false}, {other, since + api.ProcTimeout, false}, {other, since + api.ProcTimeout + 1, counts}, {other, 4 * api.MaxTime, counts},
			{both, since + api.ProcTimeout, false}, {both, since + api.ProcTimeout + 1, counts}, {both, since + api.ProcTimeout + 50, counts}, {both, since + api.ProcTimeout + 51, true},
		} {
			if got := procedure.Expired(c.s, c.now); got != c.want {
				t.Errorf("Expired(%+v, %d) = %t", c.s, c.now, got)
			}
		}
	}
	if procedure.Expired(new5(api.Peripheral), 4*api.MaxTime) {
		t.Error("a new side has an expired procedure")
	}
}

func TestP28_2And4Examples(t *testing.T) {
	s, l, e := procedure.Start(new5(api.Central), api.Control{Kind: api.CtlLength, Length: 60}, 0, 0)
	if e != api.OK || !slices.Equal(l, []api.Control{{Kind: api.CtlLength, Length: 60}}) {
		t.Errorf("Start = %+v, %+v, %v", s, l, e)
	}
	s, l, r := procedure.Handle(s, api.Control{Kind: api.CtlLenAnswer, Length: 251}, 1, 1)
	if s.Length != 60 || s.Own != -1 || len(l) != 0 || !sameReports(r, number(api.IndLength, 60)) {
		t.Errorf("Handle = %+v, %+v, %+v", s, l, r)
	}
	s, l, _ = procedure.Handle(procedure.New(api.Peripheral, 6, 100), api.Control{Kind: api.CtlFeatures, Features: 3}, 0, 0)
	if s.Common != 2 || !slices.Equal(l, []api.Control{{Kind: api.CtlFeatAnswer, Features: 6}}) {
		t.Errorf("Handle = %+v, %+v", s, l)
	}
	if _, l, e := procedure.Start(new5(api.Peripheral), api.Control{Kind: api.CtlMap, Map: 33}, 0, 0); e != api.ErrState || len(l) != 0 {
		t.Errorf("Start of CtlMap at a peripheral = %+v, %v", l, e)
	}
	if _, l, _ := procedure.Handle(new5(api.Peripheral), api.Control{Kind: 99}, 0, 0); !slices.Equal(l, []api.Control{{Kind: api.CtlUnknown, Rejected: 99}}) {
		t.Errorf("Handle of the kind 99 = %+v", l)
	}
}

func TestR1InvalidControlPDUsAreHandled(t *testing.T) {
	for _, role := range []int{api.Central, api.Peripheral} {
		for _, c := range inputs() {
			for _, wrong := range []api.Control{{Kind: c.Kind, Length: -1}, {Kind: c.Kind, Reason: -1}, {Kind: c.Kind, Rejected: -1}, {Kind: c.Kind, Version: -1, Features: 3}, {Kind: c.Kind, Map: math.MaxUint64, Update: api.Update{WinSize: math.MinInt}}} {
				for _, s := range []api.Procs{new5(role), started(t, new5(role), request(api.CtlLength), request(api.CtlPing))} {
					got, _, _ := procedure.Handle(s, wrong, event, now)
					procedure.Ready(got, event, math.MinInt)
					procedure.Expired(got, math.MaxInt)
				}
			}
		}
	}
}

// kindsOf returns the kinds of control PDUs.
func kindsOf(l []api.Control) []int {
	var kinds []int
	for _, c := range l {
		kinds = append(kinds, c.Kind)
	}
	return kinds
}

// inputs returns a valid control PDU of every kind.
func inputs() []api.Control {
	return append(slices.Clone(requests), api.Control{Kind: api.CtlEncAnswer, Salt: 7}, api.Control{Kind: api.CtlStart}, api.Control{Kind: api.CtlStartAnswer}, api.Control{Kind: api.CtlUnknown, Rejected: api.CtlPing}, api.Control{Kind: api.CtlReject, Rejected: api.CtlLength, Reason: 6}, api.Control{Kind: api.CtlFeatAnswer, Features: 9}, api.Control{Kind: api.CtlPingAnswer}, api.Control{Kind: api.CtlLenAnswer, Length: 251})
}

// A step is a call with its results, as the definitions state them or as the program returns them.
type step struct {
	s       api.Procs
	queue   []api.Control
	reports []api.Indication
	due     []api.Change
	e       api.Errno
}

func (x step) String() string {
	return fmt.Sprintf("%+v, queue %+v, reports %+v, due %+v, %v", x.s, x.queue, x.reports, x.due, x.e)
}

func (x step) equal(y step) bool {
	return same(x.s, y.s) && slices.Equal(x.queue, y.queue) && sameReports(x.reports, y.reports) && slices.Equal(x.due, y.due) && x.e == y.e
}

// begins is how a request begins, by the definitions.
func (x *step) begins(c api.Control, event uint16, now int) {
	s := &x.s
	s.Own, s.Since = c.Kind, now
	if c.Kind == api.CtlUpdate || c.Kind == api.CtlMap {
		c.Instant = event + 6
		s.Pending = append(slices.Clone(s.Pending), api.Change{Kind: c.Kind, Instant: c.Instant, Update: c.Update, Map: c.Map})
		s.Told = false
	}
	if c.Kind == api.CtlUpdate && s.Other == api.CtlParams {
		s.Other = -1
	}
	if c.Kind == api.CtlEncrypt {
		s.Salt, s.Mark, s.Crypt = c.Salt, c.Mark, api.CryptAsked
	}
	s.VersionTx = s.VersionTx || c.Kind == api.CtlVersion
	if c.Kind == api.CtlLength {
		s.Limit = c.Length
	}
	x.queue = append(x.queue, c)
}

// start is P28.2.
func start(s api.Procs, c api.Control, event uint16, now int) step {
	has := func(l []api.Control, kind int) bool { return slices.Contains(kindsOf(l), kind) }
	if !has(requests, c.Kind) {
		return step{s: s, e: api.ErrKind}
	}
	switch c.Kind {
	case api.CtlFeatures:
		c.Features = s.Features
	case api.CtlVersion:
		c.Version = 11
	case api.CtlUpdate, api.CtlMap:
		c.Instant = 0
	}
	if e := ctrlpdu.Check(c); e != api.OK {
		return step{s: s, e: e}
	}
	if s.Ended != 0 || s.Own == api.CtlTerminate || !suits(s.Role, c.Kind) || c.Kind == api.CtlEncrypt && (s.Crypt != api.CryptOff || has(s.Waiting, api.CtlEncrypt)) {
		return step{s: s, e: api.ErrState}
	}
	x := step{s: s}
	if c.Kind == api.CtlVersion && s.VersionTx {
		return x
	}
	if c.Kind == api.CtlTerminate {
		x.s.Waiting = nil
		x.begins(c, event, now)
		return x
	}
	free := s.Own == -1 && len(s.Waiting) == 0
	if c.Kind == api.CtlUpdate || c.Kind == api.CtlMap {
		free = free && len(s.Pending) == 0
	}
	if free {
		x.begins(c, event, now)
		return x
	}
	if len(s.Waiting) == 8 {
		return step{s: s, e: api.ErrFull}
	}
	x.s.Waiting = append(slices.Clone(s.Waiting), c)
	return x
}

// ready is P28.3.
func ready(s api.Procs, event uint16, now int) step {
	x := step{s: s}
	for x.s.Ended == 0 && x.s.Own == -1 && len(x.s.Waiting) != 0 {
		c := x.s.Waiting[0]
		if (c.Kind == api.CtlUpdate || c.Kind == api.CtlMap) && len(x.s.Pending) != 0 {
			break
		}
		x.s.Waiting = slices.Clone(x.s.Waiting[1:])
		if c.Kind == api.CtlVersion && x.s.VersionTx || c.Kind == api.CtlEncrypt && x.s.Crypt != api.CryptOff {
			continue
		}
		x.begins(c, event, now)
	}
	return x
}

// handle is P28.4.
func handle(s api.Procs, c api.Control, event uint16, now int) step {
	if s.Ended != 0 {
		return step{s: s}
	}
	x := step{s: s}
	central, own := s.Role == api.Central, s.Own
	answer := func(c api.Control) { x.queue = append(x.queue, c) }
	report := func(kind int, n uint64) { x.reports = append(x.reports, api.Indication{Kind: kind, Number: n}) }
	switch c.Kind {
	case api.CtlUpdate, api.CtlMap:
		switch {
		case central:
		case event-c.Instant < 32768:
			x.s.Ended = api.ReasonInstant
		case len(s.Pending) != 0:
			x.s.Ended = api.ReasonCollision
		default:
			x.s.Pending = []api.Change{{Kind: c.Kind, Instant: c.Instant, Update: c.Update, Map: c.Map}}
			x.s.Other, x.s.OtherTime = c.Kind, now
			if c.Kind == api.CtlUpdate && own == api.CtlParams {
				x.s.Own = -1
			}
		}
	case api.CtlTerminate:
		x.s.Ended = c.Reason
		if c.Reason == 0 {
			x.s.Ended = api.ReasonUser
		}
	case api.CtlEncrypt:
		if !central && s.Crypt == api.CryptOff {
			x.s.Peer, x.s.Mark, x.s.Crypt, x.s.Other, x.s.OtherTime = c.Salt, c.Mark, api.CryptAsked, api.CtlEncrypt, now
			report(api.IndKey, c.Mark)
		}
	case api.CtlEncAnswer:
		if central && s.Crypt == api.CryptAsked {
			x.s.Peer, x.s.Crypt = c.Salt, api.CryptSalted
		}
	case api.CtlStart:
		if central && s.Crypt == api.CryptSalted {
			x.s.Crypt = api.CryptStarted
			answer(api.Control{Kind: api.CtlStartAnswer})
		}
	case api.CtlStartAnswer:
		if s.Crypt == api.CryptStarted {
			x.s.Crypt = api.CryptOn
			report(api.IndEncrypted, 0)
			if central {
				x.s.Own = -1
			} else {
				x.s.Other = -1
				answer(api.Control{Kind: api.CtlStartAnswer})
			}
		}
	case api.CtlUnknown, api.CtlReject:
		if own == c.Rejected && own > api.CtlTerminate {
			x.s.Own = -1
			if own == api.CtlEncrypt {
				x.s.Crypt = api.CryptOff
			}
			report(api.IndReject, uint64(own))
		}
	case api.CtlFeatures, api.CtlFeatAnswer:
		if c.Kind == api.CtlFeatAnswer && own != api.CtlFeatures {
			break
		}
		x.s.Common, x.s.Known = s.Features&c.Features, true
		report(api.IndFeatures, s.Features&c.Features)
		if c.Kind == api.CtlFeatures {
			answer(api.Control{Kind: api.CtlFeatAnswer, Features: s.Features})
		} else {
			x.s.Own = -1
		}
	case api.CtlVersion:
		x.s.Version = c.Version
		report(api.IndVersion, uint64(c.Version))
		if own == api.CtlVersion {
			x.s.Own = -1
		} else if !s.VersionTx {
			x.s.VersionTx = true
			answer(api.Control{Kind: api.CtlVersion, Version: 11})
		}
	case api.CtlParams:
		if central && (own == api.CtlUpdate || own == api.CtlMap) {
			answer(api.Control{Kind: api.CtlReject, Reason: api.ReasonCollision, Rejected: api.CtlParams})
		} else if central {
			x.s.Other, x.s.OtherTime = api.CtlParams, now
			x.reports = []api.Indication{{Kind: api.IndParams, Update: c.Update}}
		}
	case api.CtlPing:
		answer(api.Control{Kind: api.CtlPingAnswer})
	case api.CtlPingAnswer:
		if own == api.CtlPing {
			x.s.Own = -1
			report(api.IndPing, 0)
		}
	case api.CtlLength, api.CtlLenAnswer:
		if c.Kind == api.CtlLenAnswer && own != api.CtlLength {
			break
		}
		x.s.Length = min(c.Length, s.Limit)
		report(api.IndLength, uint64(x.s.Length))
		if c.Kind == api.CtlLength {
			answer(api.Control{Kind: api.CtlLenAnswer, Length: s.Limit})
		} else {
			x.s.Own = -1
		}
	default:
		answer(api.Control{Kind: api.CtlUnknown, Rejected: max(0, min(c.Kind, 255))})
	}
	return x
}

// due is P28.7.
func due(s api.Procs, event uint16) step {
	x := step{s: s}
	x.s.Pending = nil
	for _, c := range s.Pending {
		if event-c.Instant < 32768 {
			x.due = append(x.due, c)
		} else {
			x.s.Pending = append(x.s.Pending, c)
		}
	}
	if s.Role == api.Central && len(x.due) != 0 && !s.Told {
		x.due = nil
		if s.Ended == 0 {
			x.s.Ended = api.ReasonInstant
		}
		return x
	}
	for _, c := range x.due {
		if s.Own == c.Kind {
			x.s.Own = -1
		}
		if s.Other == c.Kind {
			x.s.Other = -1
		}
	}
	return x
}

// A walk is a state on which calls are made at random; each of them is compared with the definitions.
type walk struct {
	random *rand.Rand
	s      api.Procs
	event  uint16
	now    int
	found  map[string]int
}

// control returns a control PDU, mostly a valid one; instants are near the event.
func (w *walk) control() api.Control {
	kinds := []int{api.CtlUpdate, api.CtlMap, api.CtlEncrypt, api.CtlEncAnswer, api.CtlStart, api.CtlStartAnswer, api.CtlUnknown, api.CtlFeatures, api.CtlFeatAnswer, api.CtlVersion, api.CtlReject, api.CtlParams, api.CtlPing, api.CtlPingAnswer, api.CtlLength, api.CtlLenAnswer}
	c := api.Control{Kind: kinds[w.random.Intn(len(kinds))]}
	switch w.random.Intn(30) {
	case 0:
		c.Kind = noKinds[w.random.Intn(len(noKinds))]
	case 1:
		c.Kind = api.CtlTerminate
	}
	switch c.Kind {
	case api.CtlUpdate:
		c.Update, c.Instant = []api.Update{usual, least}[w.random.Intn(2)], w.event+uint16(w.random.Intn(10)-1)
	case api.CtlMap:
		c.Map, c.Instant = api.ChannelMap(3<<w.random.Intn(35)), w.event+uint16(w.random.Intn(10)-1)
	case api.CtlTerminate:
		c.Reason = w.random.Intn(3)
	case api.CtlEncrypt:
		c.Salt, c.Mark = w.random.Uint64(), w.random.Uint64()
	case api.CtlEncAnswer:
		c.Salt = w.random.Uint64()
	case api.CtlReject, api.CtlUnknown:
		c.Rejected = max(0, w.s.Own)
		if w.random.Intn(4) == 0 {
			c.Rejected = w.random.Intn(22)
		}
	case api.CtlFeatures, api.CtlFeatAnswer:
		c.Features = w.random.Uint64()
	case api.CtlVersion:
		c.Version = w.random.Intn(256)
	case api.CtlParams:
		c.Update = []api.Update{usual, least}[w.random.Intn(2)]
	case api.CtlLength, api.CtlLenAnswer:
		c.Length = 27 + w.random.Intn(225)
	}
	return c
}

// spoil makes a request invalid now and then.
func (w *walk) spoil(c api.Control) api.Control {
	switch w.random.Intn(40) {
	case 0:
		c.Length += 300
	case 1:
		c.Instant++
	case 2:
		c.Version = 12
	case 3:
		c.Update.WinSize = 6
	}
	return c
}

// call makes a call and returns its name, its results, and what the definitions state.
func (w *walk) call() (name string, got, want step) {
	switch n := w.random.Intn(12); {
	case n < 4:
		c := w.spoil(w.control())
		want = start(w.s, c, w.event, w.now)
		got.s, got.queue, got.e = procedure.Start(w.s, c, w.event, w.now)
		name = fmt.Sprintf("Start of %d queues %d: %v", c.Kind, len(got.queue), got.e)
	case n < 8:
		c := w.control()
		want = handle(w.s, c, w.event, w.now)
		got.s, got.queue, got.reports = procedure.Handle(w.s, c, w.event, w.now)
		name = fmt.Sprintf("Handle of %d, role %d, queues %d and reports %d", c.Kind, w.s.Role, len(got.queue), len(got.reports))
		if got.s.Ended != w.s.Ended {
			name = fmt.Sprintf("Handle of %d, role %d, ends with %d", c.Kind, w.s.Role, got.s.Ended)
		}
	case n == 8:
		want = ready(w.s, w.event, w.now)
		got.s, got.queue = procedure.Ready(w.s, w.event, w.now)
		name = fmt.Sprintf("Ready queues %d and removes %d", len(got.queue), len(w.s.Waiting)-len(got.s.Waiting))
	case n == 9:
		found, salt := w.random.Intn(3) > 0, w.random.Uint64()
		want = step{s: w.s}
		if w.s.Role == api.Peripheral && w.s.Ended == 0 && w.s.Crypt == api.CryptAsked && found {
			want.s.Salt, want.s.Crypt, want.queue = salt, api.CryptStarted, []api.Control{{Kind: api.CtlEncAnswer, Salt: salt}, {Kind: api.CtlStart}}
		} else if w.s.Role == api.Peripheral && w.s.Ended == 0 && w.s.Crypt == api.CryptAsked {
			want.s.Crypt, want.s.Other, want.queue = api.CryptOff, -1, []api.Control{{Kind: api.CtlReject, Reason: api.ReasonKey, Rejected: api.CtlEncrypt}}
		}
		got.s, got.queue = procedure.Answer(w.s, found, salt)
		name = fmt.Sprintf("Answer queues %d", len(got.queue))
	case n == 10:
		c := api.Control{Kind: max(0, w.s.Own)}
		want = step{s: w.s}
		switch {
		case w.s.Own != c.Kind:
		case c.Kind < api.CtlTerminate:
			want.s.Told = true
		case c.Kind == api.CtlTerminate && w.s.Ended == 0:
			want.s.Ended = api.ReasonHost
		}
		got.s, got.reports = procedure.Sent(w.s, c)
		name = fmt.Sprintf("Sent of %d, changes %t", c.Kind, !same(got.s, w.s))
	default:
		want = due(w.s, w.event)
		got.s, got.due = procedure.Due(w.s, w.event)
		name = fmt.Sprintf("Due at the role %d, %d changes, ends %t", w.s.Role, len(got.due), got.s.Ended != w.s.Ended)
	}
	return name, got, want
}

func TestP28_2To7FollowTheDefinitions(t *testing.T) {
	w := &walk{random: rand.New(rand.NewSource(1)), found: map[string]int{}}
	for range 4000 {
		w.s = procedure.New(w.random.Intn(2), w.random.Uint64(), w.random.Intn(300))
		w.event, w.now = uint16(w.random.Intn(65536)), w.random.Intn(1000)
		for calls := 0; calls < 80 && (w.s.Ended == 0 || w.random.Intn(4) > 0); calls++ {
			before := with(w.s, func(*api.Procs) {})
			name, got, want := w.call()
			if !got.equal(want) {
				t.Fatalf("%s of\n     %+v\n got %v\nwant %v", name, before, got, want)
			}
			if !same(w.s, before) {
				t.Fatalf("%s changed %+v to %+v", name, before, w.s)
			}
			w.found[name]++
			w.s = got.s
			w.event += uint16(w.random.Intn(3))
			w.now += w.random.Intn(api.ProcTimeout / 4)
			if got, want := procedure.Expired(w.s, w.now), expired(w.s, w.now); got != want {
				t.Fatalf("Expired(%+v, %d) = %t", w.s, w.now, got)
			}
		}
	}
	for _, name := range []string{
		"Start of 0 queues 0: full", "Start of 0 queues 0: mismatch", "Start of 0 queues 1: ok", "Start of 1 queues 1: ok", "Start of 2 queues 1: ok", "Start of 2 queues 0: wrong state", "Start of 3 queues 0: full", "Start of 3 queues 0: wrong state", "Start of 3 queues 1: ok", "Start of 8 queues 0: ok", "Start of 12 queues 0: ok", "Start of 12 queues 1: ok", "Start of 15 queues 1: ok", "Start of 18 queues 0: full", "Start of 20 queues 0: out of range", "Start of 20 queues 1: ok",
		"Handle of 0, role 1, ends with 40", "Handle of 0, role 1, ends with 42", "Handle of 1, role 1, queues 0 and reports 0", "Handle of 2, role 0, ends with 19", "Handle of 3, role 1, queues 0 and reports 1", "Handle of 5, role 0, queues 1 and reports 0", "Handle of 6, role 0, queues 0 and reports 1", "Handle of 6, role 1, queues 1 and reports 1", "Handle of 7, role 1, queues 0 and reports 1", "Handle of 9, role 0, queues 0 and reports 1", "Handle of 12, role 0, queues 1 and reports 1", "Handle of 13, role 1, queues 0 and reports 1", "Handle of 15, role 0, queues 0 and reports 1", "Handle of 15, role 0, queues 1 and reports 0", "Handle of 19, role 1, queues 0 and reports 1", "Handle of 21, role 0, queues 0 and reports 1", "Handle of 99, role 0, queues 1 and reports 0",
		"Ready queues 0 and removes 1", "Ready queues 1 and removes 1", "Ready queues 1 and removes 3", "Answer queues 1", "Answer queues 2", "Sent of 0, changes true", "Sent of 1, changes true", "Sent of 2, changes true",
		"Due at the role 0, 0 changes, ends true", "Due at the role 0, 1 changes, ends false", "Due at the role 1, 1 changes, ends false",
	} {
		if w.found[name] == 0 {
			t.Errorf("there was no call like this: %s", name)
		}
	}
}

// expired is P28.8.
func expired(s api.Procs, now int) bool {
	own := s.Own > 1 && now-s.Since > 40000000
	return own || s.Other > 1 && now-s.OtherTime > 40000000
}

func TestR5ResultsAreNewMemory(t *testing.T) {
	random := rand.New(rand.NewSource(2))
	ping := request(api.CtlPing)
	for range 2000 {
		// Lists with room behind their ends, of which the results must not make use.
		waiting := slices.Repeat([]api.Control{ping, request(api.CtlVersion), request(api.CtlLength)}, 4)
		pending := slices.Repeat([]api.Change{{Kind: api.CtlMap, Instant: 106, Map: 33}}, 3)
		keptWaiting, keptPending := slices.Clone(waiting), slices.Clone(pending)
		w := &walk{random: random, event: uint16(90 + random.Intn(30)), now: now}
		w.s = with(new5(random.Intn(2)), func(s *api.Procs) {
			s.Own, s.Crypt, s.Told = []int{-1, -1, api.CtlPing, api.CtlLength, api.CtlEncrypt}[random.Intn(5)], random.Intn(4), random.Intn(2) == 0
		})
		w.s.Waiting, w.s.Pending = waiting[:random.Intn(9)], pending[:random.Intn(2)]
		name, got, _ := w.call()
		kept := step{with(got.s, func(*api.Procs) {}), slices.Clone(got.queue), slices.Clone(got.reports), slices.Clone(got.due), got.e}
		fill(got.queue, api.Control{Kind: -99})
		fill(got.due, api.Change{Kind: -99})
		if !same(got.s, kept.s) {
			t.Fatalf("the results of %s share memory", name)
		}
		fill(got.s.Pending, api.Change{Kind: -98})
		fill(got.s.Waiting, api.Control{Kind: -98})
		if slices.ContainsFunc(got.due, func(c api.Change) bool { return c.Kind == -98 }) || slices.ContainsFunc(got.queue, func(c api.Control) bool { return c.Kind == -98 }) {
			t.Fatalf("the results of %s share memory", name)
		}
		if !slices.Equal(waiting, keptWaiting) || !slices.Equal(pending, keptPending) {
			t.Fatalf("a result of %s shares memory with the state", name)
		}
	}
}

// fill replaces all elements of a list and those for which it has room.
func fill[T any](l []T, v T) {
	l = l[:cap(l)]
	for i := range l {
		l[i] = v
	}
}
