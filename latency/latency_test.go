package latency_test

import (
	"math"
	"math/rand"
	"testing"

	"wireless/api"
	"wireless/latency"
)

// limits are latencies with what they are limited to.
var limits = []struct{ latency, want int }{
	{0, 0}, {1, 1}, {2, 2}, {3, 3}, {498, 498}, {499, 499},
	{500, 499}, {501, 499}, {600, 499}, {65535, 499}, {1 << 32, 499}, {1<<32 + 3, 499}, {math.MaxInt - 1, 499}, {math.MaxInt, 499},
	{-1, 0}, {-2, 0}, {-499, 0}, {-500, 0}, {-1 << 32, 0}, {math.MinInt + 1, 0}, {math.MinInt, 0},
}

// numbers are latencies and numbers of skipped events of states that need not come from New.
var numbers = []int{math.MinInt, math.MinInt + 1, -500, -2, -1, 0, 1, 2, 3, 4, 498, 499, 500, 501, 1 << 32, math.MaxInt - 1, math.MaxInt}

// allStates yields states with all these numbers.
func allStates(yield func(api.Listening) bool) {
	for _, l := range numbers {
		for _, n := range numbers {
			for _, full := range []bool{false, true} {
				if !yield(state(l, n, full)) {
					return
				}
			}
		}
	}
}

func TestP25_1New(t *testing.T) {
	for _, c := range limits {
		if got := latency.New(c.latency); got != state(c.want, 0, true) {
			t.Errorf("New(%d) = %v", c.latency, got)
		}
	}
	for n := range 500 {
		if got := latency.New(n); got != state(n, 0, true) {
			t.Errorf("New(%d) = %v", n, got)
		}
	}
}

func TestP25_1Set(t *testing.T) {
	for l := range allStates {
		for _, c := range limits {
			if got := latency.Set(l, c.latency); got != state(c.want, 0, true) {
				t.Fatalf("Set(%v, %d) = %v", l, c.latency, got)
			}
		}
	}
}

func TestP25_2MustExamples(t *testing.T) {
	for _, c := range []struct {
		l    api.Listening
		busy bool
		want bool
	}{
		{latency.New(3), false, true}, {latency.New(3), true, true}, {latency.New(0), false, true}, {api.Listening{}, false, true},
		{state(3, 0, false), false, false}, {state(3, 1, false), false, false}, {state(3, 2, false), false, false}, {state(3, 3, false), false, true}, {state(3, 4, false), false, true},
		{state(3, 0, false), true, true}, {state(3, 2, false), true, true}, {state(3, 3, false), true, true},
		{state(3, 0, true), false, true}, {state(3, 2, true), false, true}, {state(3, 3, true), true, true},
		{state(0, 0, false), false, true}, {state(1, 0, false), false, false}, {state(1, 1, false), false, true}, {state(499, 498, false), false, false}, {state(499, 499, false), false, true},
		{state(0, -1, false), false, false}, {state(-1, 0, false), false, true}, {state(-1, -1, false), false, true}, {state(-1, -2, false), false, false}, {state(1000, 999, false), false, false},
	} {
		if got := latency.Must(c.l, c.busy); got != c.want {
			t.Errorf("Must(%v, %t) = %t", c.l, c.busy, got)
		}
	}
}

func TestP25_2MustFollowsTheDefinition(t *testing.T) {
	for l := range allStates {
		if got := latency.Must(l, true); !got {
			t.Errorf("Must(%v, true) = false", l)
		}
		if got := latency.Must(l, false); got != must(l) {
			t.Errorf("Must(%v, false) = %t", l, got)
		}
	}
}

func TestP25_3SkipExamples(t *testing.T) {
	for _, c := range []struct {
		l    api.Listening
		want int
		e    api.Errno
	}{
		{state(3, 0, false), 1, api.OK}, {state(3, 1, false), 2, api.OK}, {state(3, 2, false), 3, api.OK}, {state(3, 3, false), 3, api.ErrState}, {state(3, 4, false), 4, api.ErrState},
		{state(3, 0, true), 0, api.ErrState}, {state(3, 2, true), 2, api.ErrState}, {state(0, 0, false), 0, api.ErrState}, {latency.New(499), 0, api.ErrState}, {state(499, 498, false), 499, api.OK}, {state(499, 499, false), 499, api.ErrState},
		{state(-1, -1, false), -1, api.ErrState}, {state(-1, -2, false), -1, api.OK}, {state(math.MaxInt, math.MaxInt-1, false), math.MaxInt, api.OK}, {state(math.MaxInt, math.MaxInt, false), math.MaxInt, api.ErrState}, {state(math.MaxInt, math.MinInt, false), math.MinInt + 1, api.OK},
	} {
		want := c.l
		want.Skipped = c.want
		if got, e := latency.Skip(c.l); got != want || e != c.e {
			t.Errorf("Skip(%v) = %v, %v, want %v, %v", c.l, got, e, want, c.e)
		}
	}
}

func TestP25_3SkipFollowsTheDefinition(t *testing.T) {
	for l := range allStates {
		want, wantE := l, api.ErrState
		if !must(l) {
			want.Skipped, wantE = l.Skipped+1, api.OK
		}
		if got, e := latency.Skip(l); got != want || e != wantE {
			t.Errorf("Skip(%v) = %v, %v, want %v, %v", l, got, e, want, wantE)
		}
	}
}

func TestP25_4Attend(t *testing.T) {
	for l := range allStates {
		if got := latency.Attend(l, true); got != state(l.Latency, 0, false) {
			t.Errorf("Attend(%v, true) = %v", l, got)
		}
		if got := latency.Attend(l, false); got != state(l.Latency, 0, l.Full) {
			t.Errorf("Attend(%v, false) = %v", l, got)
		}
	}
}

// A history is what was done to a state that New returned: the latency that was set last, how often Skip succeeded since Attend or Set, and whether Attend with acked true came after New or Set.
type history struct {
	latency, skips int
	acked          bool
}

// steps are what can be done to a state.
var steps = []func(t *testing.T, l api.Listening, h history) (api.Listening, history){
	func(t *testing.T, l api.Listening, h history) (api.Listening, history) {
		next, e := latency.Skip(l)
		if may := h.acked && h.skips < h.latency; may != (e == api.OK) {
			t.Fatalf("Skip(%v) = %v after %+v", l, e, h)
		}
		if e == api.OK {
			h.skips++
		}
		return next, h
	},
	func(t *testing.T, l api.Listening, h history) (api.Listening, history) {
		return latency.Attend(l, false), history{h.latency, 0, h.acked}
	},
	func(t *testing.T, l api.Listening, h history) (api.Listening, history) {
		return latency.Attend(l, true), history{h.latency, 0, true}
	},
	func(t *testing.T, l api.Listening, h history) (api.Listening, history) {
		return latency.Set(l, 1), history{1, 0, false}
	},
	func(t *testing.T, l api.Listening, h history) (api.Listening, history) {
		return latency.Set(l, 3), history{3, 0, false}
	},
}

// explore does all steps, as many as depth in a row, and reports every state with its history.
func explore(t *testing.T, l api.Listening, h history, depth int) {
	if want := !h.acked || h.skips >= h.latency; latency.Must(l, false) != want {
		t.Fatalf("Must(%v, false) = %t after %+v", l, !want, h)
	}
	if depth == 0 {
		return
	}
	for _, step := range steps {
		next, nextHistory := step(t, l, h)
		explore(t, next, nextHistory, depth-1)
	}
}

func TestP25_5SkipsAreBound(t *testing.T) {
	for _, n := range []int{0, 1, 2, 3} {
		explore(t, latency.New(n), history{latency: n}, 7)
	}
}

func TestP25_5SkipsAreBoundInLongHistories(t *testing.T) {
	random := rand.New(rand.NewSource(1))
	for range 2000 {
		n := random.Intn(500)
		l, h := latency.New(n), history{latency: n}
		for range 100 {
			switch random.Intn(20) {
			case 0:
				n := random.Intn(500)
				l, h = latency.Set(l, n), history{latency: n}
			case 1:
				l, h = steps[1](t, l, h)
			case 2:
				l, h = steps[2](t, l, h)
			default:
				l, h = steps[0](t, l, h)
			}
		}
	}
}

func TestP25_5NothingIsSkippedBeforeAnAcknowledgement(t *testing.T) {
	for _, l := range []api.Listening{latency.New(499), latency.Set(latency.Attend(latency.New(1), true), 499), latency.Set(state(5, 2, false), 499)} {
		for range 600 {
			next, e := latency.Skip(l)
			if e != api.ErrState || next != l {
				t.Fatalf("Skip(%v) = %v, %v", l, next, e)
			}
			l = latency.Attend(next, false)
		}
	}
}

func TestP25_6AllOfTheLatencyIsUsed(t *testing.T) {
	for n := range 500 {
		for _, l := range []api.Listening{latency.New(n), latency.Set(latency.New(7), n), state(n, 3, false)} {
			l = latency.Attend(l, true)
			for i := range n {
				next, e := latency.Skip(l)
				if e != api.OK || next.Skipped != i+1 {
					t.Fatalf("skip %d of %d: %v, %v", i+1, n, next, e)
				}
				l = next
			}
			if next, e := latency.Skip(l); e != api.ErrState || next != l {
				t.Fatalf("Skip(%v) after %d events = %v, %v", l, n, next, e)
			}
			if got := latency.Attend(l, false); got != state(n, 0, false) || latency.Must(got, false) != (n == 0) {
				t.Fatalf("Attend(%v, false) = %v", l, got)
			}
		}
	}
}

// must is P25.2 for a peripheral that has nothing to send.
func must(l api.Listening) bool {
	return l.Full || l.Latency <= l.Skipped
}

func state(latency, skipped int, full bool) api.Listening {
	return api.Listening{Latency: latency, Skipped: skipped, Full: full}
}
