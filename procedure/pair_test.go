package procedure_test

import (
	"math/rand"
	"slices"
	"testing"

	"wireless/api"
	"wireless/procedure"
)

// applied is a change that a side applied at an event.
type applied struct {
	event  uint16
	change api.Change
}

// A pair is two sides that exchange the control PDUs that are to be queued, each once and in order.
type pair struct {
	sides    [2]api.Procs
	wires    [2][]api.Control // what a side queued and what has not arrived yet
	event    uint16
	now      int
	found    bool // the long-term keys that are asked for are found
	changes  [2][]applied
	versions [2]int // how often a side queued its version
	asked    bool   // encryption was requested
	done     [2]int // how often a side reported what is counted below
}

// What is counted of the reports, to see that the consequences were not tested in vain.
var counted = []int{api.IndEncrypted, api.IndLength, api.IndReject, api.IndVersion}

func newPair(event uint16, found bool) pair {
	return pair{sides: [2]api.Procs{procedure.New(api.Central, 5, 200), procedure.New(api.Peripheral, 6, 150)}, event: event, found: found}
}

// queue takes over a state with the control PDUs that are to be queued.
func (p *pair) queue(side int, s api.Procs, l []api.Control) {
	p.sides[side] = s
	p.wires[side] = slices.Concat(p.wires[side], l)
	for _, c := range l {
		if c.Kind == api.CtlVersion {
			p.versions[side]++
		}
		p.asked = p.asked || c.Kind == api.CtlEncrypt
	}
}

// start makes a request, which may be refused.
func (p *pair) start(side int, c api.Control) {
	s, l, _ := procedure.Start(p.sides[side], c, p.event, p.now)
	p.queue(side, s, l)
}

// deliver lets the next control PDU of a side arrive at the other one.
func (p *pair) deliver(from int) {
	if len(p.wires[from]) == 0 {
		return
	}
	c, to := p.wires[from][0], 1-from
	p.wires[from] = p.wires[from][1:]
	s, l, reports := procedure.Handle(p.sides[to], c, p.event, p.now)
	p.queue(to, s, l)
	for _, r := range reports {
		if r.Kind == api.IndKey {
			s, l := procedure.Answer(p.sides[to], p.found, 0x5566)
			p.queue(to, s, l)
		}
		if slices.Contains(counted, r.Kind) {
			p.done[to]++
		}
	}
	p.sides[from], _ = procedure.Sent(p.sides[from], c)
}

// next begins the next event.
func (p *pair) next() {
	p.event++
	p.now += 50000
	for i := range p.sides {
		s, due := procedure.Due(p.sides[i], p.event)
		p.sides[i] = s
		for _, c := range due {
			p.changes[i] = append(slices.Clone(p.changes[i]), applied{p.event, c})
		}
	}
}

// ready lets the requests of a side that wait begin.
func (p *pair) ready(side int) {
	s, l := procedure.Ready(p.sides[side], p.event, p.now)
	p.queue(side, s, l)
}

// settle lets everything arrive and everything that waits begin, as far as no side has ended.
func (p *pair) settle() {
	for range 300 {
		switch {
		case len(p.wires[0])+len(p.wires[1]) > 0:
			p.deliver(0)
			p.deliver(1)
		case !p.open():
			return
		case len(p.sides[0].Waiting)+len(p.sides[1].Waiting) > 0 && len(p.sides[0].Pending) == 0:
			p.ready(0)
			p.ready(1)
		case len(p.sides[0].Pending)+len(p.sides[1].Pending) > 0:
			p.next()
		default:
			return
		}
	}
}

// open reports whether no side has ended and everything has arrived.
func (p *pair) open() bool {
	return p.sides[0].Ended == 0 && p.sides[1].Ended == 0 && len(p.wires[0])+len(p.wires[1]) == 0
}

// check compares a pair with the consequences.
func (p *pair) check(t *testing.T) {
	t.Helper()
	if p.versions[0] > 1 || p.versions[1] > 1 {
		t.Fatalf("the versions were sent %d times: %+v", p.versions, p)
	}
	if !p.open() {
		return
	}
	a, b := p.sides[0], p.sides[1]
	if !slices.Equal(p.changes[0], p.changes[1]) || !slices.Equal(a.Pending, b.Pending) {
		t.Fatalf("the sides differ in their changes: %+v", p)
	}
	if a.Length != b.Length {
		t.Fatalf("the sides differ in their lengths: %+v", p)
	}
	phase := api.CryptOff
	if p.asked && p.found {
		phase = api.CryptOn
	}
	if a.Crypt != phase || b.Crypt != phase || phase == api.CryptOn && (a.Salt != b.Peer || b.Salt != a.Peer || a.Mark != b.Mark || b.Salt != 0x5566) {
		t.Fatalf("the sides differ in their encryption: %+v", p)
	}
}

// An action is done to a pair.
type action func(p *pair)

func starting(side int, c api.Control) action {
	return func(p *pair) { p.start(side, c) }
}

// Actions: what moves a pair on, and requests of both sides.
var (
	moves    = []action{func(p *pair) { p.deliver(0) }, func(p *pair) { p.deliver(1) }, (*pair).next}
	begins   = []action{func(p *pair) { p.ready(0) }, func(p *pair) { p.ready(1) }}
	changing = []action{starting(0, api.Control{Kind: api.CtlUpdate, Update: usual}), starting(0, api.Control{Kind: api.CtlMap, Map: 33}), starting(1, api.Control{Kind: api.CtlParams, Update: least})}
	lengths  = []action{starting(0, api.Control{Kind: api.CtlLength, Length: 60}), starting(1, api.Control{Kind: api.CtlLength, Length: 100}), starting(0, api.Control{Kind: api.CtlLength, Length: 251}), starting(1, api.Control{Kind: api.CtlLength, Length: 40})}
	versions = []action{starting(0, api.Control{Kind: api.CtlVersion}), starting(1, api.Control{Kind: api.CtlVersion}), starting(0, api.Control{Kind: api.CtlPing})}
	crypts   = []action{starting(0, api.Control{Kind: api.CtlEncrypt, Salt: 0x1122, Mark: 0x3344}), starting(1, api.Control{Kind: api.CtlPing}), starting(1, api.Control{Kind: api.CtlFeatures})}
	ends     = []action{starting(0, api.Control{Kind: api.CtlTerminate, Reason: 19}), starting(1, api.Control{Kind: api.CtlTerminate, Reason: 19})}
)

// explore does all sequences of actions, and at the end of each of them lets everything arrive.
func explore(t *testing.T, p pair, depth int, actions []action, seen func(p *pair)) {
	p.check(t)
	if depth == 0 {
		p.settle()
		p.check(t)
		seen(&p)
		return
	}
	for _, a := range actions {
		next := p
		a(&next)
		explore(t, next, depth-1, actions, seen)
	}
}

func TestP28_9SidesApplyTheSameChanges(t *testing.T) {
	most, ended := 0, 0
	// Events that pass before a change arrives end the connection at its instant, also if the counter wraps around.
	for _, event := range []uint16{7, 65532} {
		explore(t, newPair(event, true), 5, slices.Concat(moves, begins[:1], changing), func(p *pair) {
			most = max(most, len(p.changes[0]))
			if !p.open() {
				ended++
			} else if len(p.changes[0]) != len(p.changes[1]) || len(p.sides[0].Pending) != 0 {
				t.Fatalf("changes are left: %+v", p)
			}
		})
	}
	if most < 3 {
		t.Errorf("at most %d changes were applied", most)
	}
	late := newPair(100, true)
	late.start(0, api.Control{Kind: api.CtlMap, Map: 33})
	for range 6 {
		late.next()
	}
	late.settle()
	if late.sides[0].Ended != api.ReasonInstant || late.sides[1].Ended != api.ReasonInstant || len(late.changes[0])+len(late.changes[1]) != 0 {
		t.Errorf("a change that arrives late: %+v", late)
	}
	inTime := newPair(100, true)
	inTime.start(0, api.Control{Kind: api.CtlMap, Map: 33})
	for range 5 {
		inTime.next()
	}
	inTime.settle()
	want := []applied{{106, api.Change{Kind: api.CtlMap, Instant: 106, Map: 33}}}
	if !inTime.open() || !slices.Equal(inTime.changes[0], want) || !slices.Equal(inTime.changes[1], want) {
		t.Errorf("a change that arrives in the last event: %+v", inTime)
	}
}

func TestP28_10VersionsAreSentOnce(t *testing.T) {
	both := 0
	explore(t, newPair(7, true), 5, slices.Concat(moves[:2], begins, versions), func(p *pair) {
		if p.versions[0] == 1 && p.versions[1] == 1 && p.sides[0].Version == 11 && p.sides[1].Version == 11 {
			both++
		} else if p.versions != [2]int{} {
			t.Fatalf("one side does not know the version of the other one: %+v", p)
		}
	})
	if both < 1000 {
		t.Errorf("the versions were exchanged only %d times", both)
	}
}

func TestP28_11LengthsAreTheSame(t *testing.T) {
	found := map[int]int{}
	explore(t, newPair(7, true), 5, slices.Concat(moves[:2], begins, lengths), func(p *pair) {
		found[p.sides[0].Length]++
	})
	for _, length := range []int{27, 40, 60, 100, 150} {
		if found[length] == 0 {
			t.Errorf("the length was never %d: %v", length, found)
		}
	}
}

func TestP28_12EncryptionIsOnOrOffOnBothSides(t *testing.T) {
	for _, found := range []bool{false, true} {
		reached := 0
		p := newPair(7, found)
		crypts[0](&p)
		explore(t, p, 4, slices.Concat(moves, begins[:1], crypts, changing[1:2]), func(p *pair) {
			if p.asked {
				reached++
			}
		})
		if reached < 1000 {
			t.Errorf("encryption was requested only %d times", reached)
		}
	}
}

func TestP28_12BothSidesAreQuietInBetween(t *testing.T) {
	for _, found := range []bool{false, true} {
		p := newPair(7, found)
		phases := func(want ...int) {
			t.Helper()
			for i, s := range p.sides {
				if s.Crypt != want[i] || procedure.Quiet(s) != (want[i] != api.CryptOff && want[i] != api.CryptOn) {
					t.Errorf("the phase of the side %d is %d, quiet: %t", i, s.Crypt, procedure.Quiet(s))
				}
			}
		}
		p.start(0, api.Control{Kind: api.CtlEncrypt, Salt: 0x1122, Mark: 0x3344})
		phases(api.CryptAsked, api.CryptOff)
		p.deliver(0)
		if !found {
			phases(api.CryptAsked, api.CryptOff)
			p.deliver(1)
			phases(api.CryptOff, api.CryptOff)
			continue
		}
		phases(api.CryptAsked, api.CryptStarted)
		p.deliver(1)
		phases(api.CryptSalted, api.CryptStarted)
		p.deliver(1)
		phases(api.CryptStarted, api.CryptStarted)
		p.deliver(0)
		phases(api.CryptStarted, api.CryptOn)
		p.deliver(1)
		phases(api.CryptOn, api.CryptOn)
		if !p.open() || p.sides[0].Own != -1 || p.sides[1].Other != -1 {
			t.Errorf("after the encryption: %+v", p)
		}
	}
}

func TestP28_9To12HoldInLongExchanges(t *testing.T) {
	random := rand.New(rand.NewSource(3))
	actions := slices.Concat(moves, moves, moves[:2], moves[:2], begins, begins, changing, lengths, versions, crypts)
	open, ended, changes, reports := 0, 0, 0, 0
	for range 2000 {
		p := newPair(uint16(random.Intn(65536)), random.Intn(2) == 0)
		for range random.Intn(120) {
			if random.Intn(150) == 0 {
				ends[random.Intn(2)](&p)
			} else {
				actions[random.Intn(len(actions))](&p)
			}
			p.check(t)
		}
		p.settle()
		p.check(t)
		if p.open() {
			open++
		} else {
			ended++
		}
		changes += len(p.changes[0])
		reports += p.done[0] + p.done[1]
	}
	if open < 300 || ended < 300 || changes < 1000 || reports < 5000 {
		t.Errorf("%d pairs stayed open and %d ended, with %d changes and %d reports", open, ended, changes, reports)
	}
}

func TestP28_6TerminationEndsBothSides(t *testing.T) {
	for side := range 2 {
		p := newPair(7, true)
		p.start(side, api.Control{Kind: api.CtlTerminate, Reason: 7})
		p.deliver(side)
		if p.sides[side].Ended != api.ReasonHost || p.sides[1-side].Ended != 7 {
			t.Errorf("after the side %d ended the connection: %+v", side, p)
		}
	}
}
