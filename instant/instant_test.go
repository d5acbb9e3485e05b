package instant_test

import (
	"math"
	"math/rand"
	"slices"
	"testing"

	"wireless/api"
	"wireless/instant"
)

// Events of the tests, with those at which the counter wraps around or changes its sign.
var someEvents = []uint16{0, 1, 5, 6, 7, 10, 255, 256, 499, 505, 506, 1000, 32766, 32767, 32768, 32769, 40000, 65030, 65031, 65529, 65530, 65531, 65534, 65535}

// latencies are numbers around the range that is permitted, and numbers whose lowest bits are in it.
var latencies = []int{math.MinInt, math.MinInt + 1, -65536, -65530, -500, -7, -6, -2, -1, 0, 1, 2, 4, 100, 255, 256, 497, 498, 499, 500, 501, 600, 65535, 65536, 65540, 1 << 32, math.MaxInt - 6, math.MaxInt - 1, math.MaxInt}

// noKinds are kinds that are not those of changes.
var noKinds = []int{math.MinInt, -256, -1, 2, 3, 7, 8, 12, 15, 20, 99, 255, 256, 257, 1 << 32, 1<<32 + 1, math.MaxInt}

func TestP27_1PlanExamples(t *testing.T) {
	for _, c := range []struct {
		event   uint16
		latency int
		want    uint16
	}{{10, 0, 16}, {65535, 4, 9}, {0, -1, 6}, {0, 600, 505}, {0, 499, 505}, {0, 498, 504}, {0, 500, 505}, {65530, 0, 0}, {65529, 0, 65535}, {65031, 499, 0}, {40000, 1, 40007}} {
		if got := instant.Plan(c.event, c.latency); got != c.want {
			t.Errorf("Plan(%d, %d) = %d, want %d", c.event, c.latency, got, c.want)
		}
	}
}

func TestP27_1PlanFollowsTheDefinition(t *testing.T) {
	for _, latency := range latencies {
		limited := latency
		if latency < 0 {
			limited = 0
		} else if latency > 499 {
			limited = 499
		}
		for event := range 65536 {
			if got := instant.Plan(uint16(event), latency); int(got) != (event+6+limited)%65536 {
				t.Fatalf("Plan(%d, %d) = %d", event, latency, got)
			}
		}
	}
}

func TestP27_2CheckExamples(t *testing.T) {
	for _, c := range []struct {
		event, at uint16
		want      api.Errno
	}{{15, 16, api.OK}, {16, 16, api.ErrInstant}, {17, 16, api.ErrInstant}, {65530, 2, api.OK}, {2, 65530, api.ErrInstant}, {2, 2, api.ErrInstant}, {65535, 0, api.OK}, {0, 65535, api.ErrInstant}, {0, 32767, api.OK}, {0, 32768, api.OK}, {0, 32769, api.ErrInstant}, {32768, 0, api.OK}, {32767, 0, api.ErrInstant}} {
		for _, kind := range []int{api.CtlUpdate, api.CtlMap} {
			if got := instant.Check(c.event, api.Change{Kind: kind, Instant: c.at}); got != c.want {
				t.Errorf("Check(%d, kind %d at %d) = %v, want %v", c.event, kind, c.at, got, c.want)
			}
		}
	}
}

func TestP27_2CheckFollowsTheDefinition(t *testing.T) {
	for _, event := range someEvents {
		for at := range 65536 {
			want := api.OK
			if come(event, uint16(at)) {
				want = api.ErrInstant
			}
			// What is changed does not matter.
			for _, c := range []api.Change{{Kind: api.CtlUpdate}, {Kind: api.CtlMap}, {Kind: api.CtlUpdate, Update: api.Update{WinSize: -1, Timeout: 5}}, {Kind: api.CtlMap, Map: 1 << 50}} {
				c.Instant = uint16(at)
				if got := instant.Check(event, c); got != want {
					t.Fatalf("Check(%d, %+v) = %v, want %v", event, c, got, want)
				}
			}
		}
	}
}

func TestP27_2CheckRejectsOtherKinds(t *testing.T) {
	for _, kind := range noKinds {
		for _, event := range someEvents {
			for _, at := range someEvents {
				if got := instant.Check(event, api.Change{Kind: kind, Instant: at}); got != api.ErrKind {
					t.Errorf("Check(%d, kind %d at %d) = %v", event, kind, at, got)
				}
			}
		}
	}
}

func TestP27_3Add(t *testing.T) {
	c := api.Change{Kind: api.CtlUpdate, Instant: 16, Update: api.Update{WinSize: 2, WinOffset: 3, Interval: 40, Latency: 4, Timeout: 100}}
	other := api.Change{Kind: api.CtlMap, Instant: 20, Map: 33}
	for _, l := range [][]api.Change{nil, {}, make([]api.Change, 0, 4)} {
		if got, e := instant.Add(l, 15, c); e != api.OK || !slices.Equal(got, []api.Change{c}) {
			t.Errorf("Add(%v, 15, %+v) = %+v, %v", l, c, got, e)
		}
		if got, e := instant.Add(l, 16, c); e != api.ErrInstant || len(got) != 0 {
			t.Errorf("Add(%v, 16, %+v) = %+v, %v", l, c, got, e)
		}
	}
	for _, l := range [][]api.Change{{other}, {c}, {other, c}, {{Kind: 99}}, {{Kind: api.CtlMap, Instant: 3}}} {
		if got, e := instant.Add(l, 15, c); e != api.ErrBusy || !slices.Equal(got, l) {
			t.Errorf("Add(%+v, 15, %+v) = %+v, %v", l, c, got, e)
		}
	}
}

func TestP27_3AddReturnsTheFirstError(t *testing.T) {
	full := []api.Change{{Kind: api.CtlMap, Instant: 20, Map: 33}}
	for _, c := range []struct {
		l         []api.Change
		kind      int
		event, at uint16
		want      api.Errno
	}{
		{full, 2, 16, 16, api.ErrKind}, {full, 2, 15, 16, api.ErrKind}, {nil, 2, 16, 16, api.ErrKind}, {nil, -1, 15, 16, api.ErrKind},
		{full, api.CtlMap, 16, 16, api.ErrInstant}, {full, api.CtlUpdate, 2, 65530, api.ErrInstant}, {nil, api.CtlMap, 30, 16, api.ErrInstant},
		{full, api.CtlMap, 15, 16, api.ErrBusy}, {full, api.CtlUpdate, 65530, 2, api.ErrBusy},
	} {
		got, e := instant.Add(c.l, c.event, api.Change{Kind: c.kind, Instant: c.at})
		if e != c.want || !slices.Equal(got, c.l) {
			t.Errorf("Add(%+v, %d, kind %d at %d) = %+v, %v, want %v", c.l, c.event, c.kind, c.at, got, e, c.want)
		}
	}
}

func TestP27_3AddFollowsTheDefinition(t *testing.T) {
	random := rand.New(rand.NewSource(1))
	found := map[api.Errno]int{}
	for range 20000 {
		l := someChanges(random, random.Intn(3))
		event, c := pick(random, someEvents), change(random)
		want, wantE := l, api.OK
		switch {
		case c.Kind != api.CtlUpdate && c.Kind != api.CtlMap:
			wantE = api.ErrKind
		case come(event, c.Instant):
			wantE = api.ErrInstant
		case len(l) != 0:
			wantE = api.ErrBusy
		default:
			want = []api.Change{c}
		}
		got, e := instant.Add(l, event, c)
		if e != wantE || !slices.Equal(got, want) {
			t.Fatalf("Add(%+v, %d, %+v) = %+v, %v, want %v", l, event, c, got, e, wantE)
		}
		found[e]++
	}
	for _, e := range []api.Errno{api.OK, api.ErrKind, api.ErrInstant, api.ErrBusy} {
		if found[e] < 1000 {
			t.Errorf("the result was %v only %d times", e, found[e])
		}
	}
}

func TestP27_4DueExample(t *testing.T) {
	five, seven := api.Change{Kind: api.CtlMap, Instant: 5, Map: 33}, api.Change{Kind: api.CtlUpdate, Instant: 7}
	for _, c := range []struct {
		event     uint16
		rest, due []api.Change
	}{{4, []api.Change{five, seven}, nil}, {5, []api.Change{seven}, []api.Change{five}}, {6, []api.Change{seven}, []api.Change{five}}, {7, nil, []api.Change{five, seven}}, {8, nil, []api.Change{five, seven}}, {65535, []api.Change{five, seven}, nil}} {
		if rest, due := instant.Due([]api.Change{five, seven}, c.event); !slices.Equal(rest, c.rest) || !slices.Equal(due, c.due) {
			t.Errorf("Due at %d = %+v, %+v", c.event, rest, due)
		}
	}
	for _, event := range someEvents {
		if rest, due := instant.Due(nil, event); len(rest) != 0 || len(due) != 0 {
			t.Errorf("Due of nothing at %d = %+v, %+v", event, rest, due)
		}
	}
}

func TestP27_4DueFollowsTheDefinition(t *testing.T) {
	random := rand.New(rand.NewSource(2))
	mixed := 0
	for range 20000 {
		l, event := someChanges(random, random.Intn(8)), pick(random, someEvents)
		var wantRest, wantDue []api.Change
		for _, c := range l {
			if come(event, c.Instant) {
				wantDue = append(wantDue, c)
			} else {
				wantRest = append(wantRest, c)
			}
		}
		rest, due := instant.Due(l, event)
		if !slices.Equal(rest, wantRest) || !slices.Equal(due, wantDue) {
			t.Fatalf("Due(%+v, %d) = %+v, %+v", l, event, rest, due)
		}
		if len(rest) > 1 && len(due) > 1 {
			mixed++
		}
	}
	if mixed < 1000 {
		t.Errorf("only %d lists were divided", mixed)
	}
}

func TestP27_5PlannedChangesCanStillBeAdded(t *testing.T) {
	for _, event := range someEvents {
		for latency := range 500 {
			for _, kind := range []int{api.CtlUpdate, api.CtlMap} {
				c := api.Change{Kind: kind, Instant: instant.Plan(event, latency)}
				for later := range 6 + latency {
					if got, e := instant.Add(nil, event+uint16(later), c); e != api.OK || !slices.Equal(got, []api.Change{c}) {
						t.Fatalf("planned at %d with the latency %d, %d events later: %+v, %v", event, latency, later, got, e)
					}
				}
				if got, e := instant.Add(nil, event+uint16(6+latency), c); e != api.ErrInstant || len(got) != 0 {
					t.Fatalf("planned at %d with the latency %d, at the instant: %+v, %v", event, latency, got, e)
				}
			}
		}
	}
}

func TestP27_6ChangesAreDueOnce(t *testing.T) {
	for _, event := range []uint16{0, 7, 32768, 65530, 65535} {
		// The farthest instant that can be added is 32768 events ahead.
		for _, ahead := range []int{1, 2, 6, 505, 5000, 32766, 32767, 32768} {
			c := api.Change{Kind: api.CtlMap, Instant: event + uint16(ahead), Map: 33}
			pending, e := instant.Add(nil, event, c)
			if e != api.OK {
				t.Fatalf("Add at %d of an instant %d events ahead: %v", event, ahead, e)
			}
			for n := range 140000 {
				var due []api.Change
				pending, due = instant.Due(pending, event+uint16(n))
				if n == ahead && !slices.Equal(due, []api.Change{c}) || n != ahead && len(due) != 0 || (n < ahead) != (len(pending) == 1) {
					t.Fatalf("added at %d with an instant %d events ahead: after %d events %+v are due", event, ahead, n, due)
				}
			}
		}
		if _, e := instant.Add(nil, event, api.Change{Kind: api.CtlMap, Instant: event + 32769}); e != api.ErrInstant {
			t.Errorf("Add at %d of an instant 32769 events ahead: %v", event, e)
		}
	}
}

func TestR5ResultsAreNewMemory(t *testing.T) {
	random := rand.New(rand.NewSource(3))
	for range 3000 {
		memory := someChanges(random, 8)
		kept := slices.Clone(memory)
		l := memory[:random.Intn(8)]
		event := pick(random, someEvents)
		rest, due := instant.Due(l, event)
		added, _ := instant.Add(l, event, change(random))
		lists := [][]api.Change{rest, due, added}
		for i, list := range lists {
			var others [][]api.Change
			for j := range lists {
				if j != i {
					others = append(others, slices.Clone(lists[j]))
				}
			}
			overwrite(list)
			if !slices.Equal(memory, kept) {
				t.Fatalf("result %d shares memory with the argument", i)
			}
			for j := range lists {
				if j != i && !slices.Equal(lists[j], others[0]) {
					t.Fatalf("the results %d and %d share memory", i, j)
				}
				if j != i {
					others = others[1:]
				}
			}
		}
	}
}

// overwrite replaces all elements of a list and those for which it has room.
func overwrite(l []api.Change) {
	l = l[:cap(l)]
	for i := range l {
		l[i] = api.Change{Kind: -99}
	}
}

// come reports whether an instant has come: whether the way from it up to the event is shorter than half of all events.
func come(event, at uint16) bool {
	return (int(event)-int(at)+65536)%65536 < 32768
}

func pick[T any](random *rand.Rand, l []T) T {
	return l[random.Intn(len(l))]
}

// change returns a change, mostly of a kind that there is.
func change(random *rand.Rand) api.Change {
	c := api.Change{Kind: random.Intn(2), Instant: pick(random, someEvents), Map: api.ChannelMap(random.Uint64()), Update: api.Update{Interval: random.Int()}}
	if random.Intn(5) == 0 {
		c.Kind = pick(random, noKinds)
	}
	return c
}

func someChanges(random *rand.Rand, n int) []api.Change {
	var l []api.Change
	for range n {
		l = append(l, change(random))
	}
	return l
}
