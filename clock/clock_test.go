package clock_test

import (
	"math"
	"math/big"
	"math/rand"
	"testing"

	"wireless/api"
	"wireless/clock"
)

// deviations are deviations around which mistakes are likely, valid ones and others.
var deviations = []int{math.MinInt, math.MinInt + 1, -api.MaxTime, -1000, -501, -500, -499, -250, -3, -1, 0, 1, 3, 250, 499, 500, 501, 1000, 1001, api.MaxTime, math.MaxInt - 1, math.MaxInt}

// times are times, starts and spans around which mistakes are likely, valid ones and others.
var times = []int{math.MinInt, math.MinInt + 1, -api.MaxTime, -1000000, -2, -1, 0, 1, 2, 1999, 2000, 2001, 15000, 999999, 1000000, 1000001, 123456789, 1 << 32, api.MaxTime / 2, api.MaxTime - 1, api.MaxTime, api.MaxTime + 1, 2 * api.MaxTime, math.MaxInt - 1, math.MaxInt}

func TestP11_1CheckExamples(t *testing.T) {
	for _, c := range []struct {
		ppm, start int
		want       api.Errno
	}{
		{0, 0, api.OK}, {500, 0, api.OK}, {-500, 0, api.OK}, {100, 1000, api.OK}, {0, api.MaxTime, api.OK}, {-500, api.MaxTime, api.OK},
		{501, 0, api.ErrRange}, {-501, 0, api.ErrRange}, {0, -1, api.ErrRange}, {0, api.MaxTime + 1, api.ErrRange}, {501, -1, api.ErrRange}, {math.MinInt, 5, api.ErrRange}, {5, math.MinInt, api.ErrRange}, {math.MaxInt, math.MaxInt, api.ErrRange},
	} {
		if got := clock.Check(api.Clock{PPM: c.ppm, Start: c.start}); got != c.want {
			t.Errorf("Check(%d, %d) = %v, want %v", c.ppm, c.start, got, c.want)
		}
	}
}

func TestP11_1CheckFollowsTheDefinition(t *testing.T) {
	for _, ppm := range deviations {
		for _, start := range times {
			want := api.ErrRange
			if ppm >= -500 && ppm <= 500 && start >= 0 && start <= 1<<40 {
				want = api.OK
			}
			if got := clock.Check(api.Clock{PPM: ppm, Start: start}); got != want {
				t.Errorf("Check(%d, %d) = %v, want %v", ppm, start, got, want)
			}
		}
	}
}

func TestP11_2LocalExamples(t *testing.T) {
	for _, c := range []struct{ ppm, start, t, want int }{
		{100, 1000, 1000000, 1001100}, {-100, 0, 15000, 14998}, {0, 7, -5, 7}, {0, 7, 0, 7}, {-500, 7, 0, 7}, {0, 7, 5, 12},
		{1, 0, 999999, 999999}, {1, 0, 1000000, 1000001}, {1, 0, 1000001, 1000002}, {-1, 0, 1, 0}, {-1, 0, 999999, 999998}, {-1, 0, 1000000, 999999}, {-1, 0, 1000001, 999999},
		{-500, 0, 2000, 1999}, {-500, 0, 2001, 1999}, {500, 0, 1999, 1999}, {500, 0, 2000, 2001}, {-3, 0, 666667, 666664},
		{250, 1000, 123456789, 123488653}, {-250, 1000, 123456789, 123426924}, {333, 5, 987654321012, 987983209905}, {-333, 5, 987654321012, 987325432128},
		{500, 0, api.MaxTime, 1100061383589}, {-500, 0, api.MaxTime, 1098961871962}, {500, api.MaxTime, api.MaxTime, 2199573011365}, {-500, api.MaxTime, api.MaxTime, 2198473499738}, {499, 1, api.MaxTime - 1, 1100060284078}, {-499, 1, api.MaxTime - 1, 1098962971473},
	} {
		if got := clock.Local(api.Clock{PPM: c.ppm, Start: c.start}, c.t); got != c.want {
			t.Errorf("Local({%d, %d}, %d) = %d, want %d", c.ppm, c.start, c.t, got, c.want)
		}
	}
}

func TestP11_2LocalLimitsItsArguments(t *testing.T) {
	for _, c := range []struct{ ppm, start, t, want int }{
		{501, 0, 1000000, 1000500}, {math.MaxInt, 0, 1000000, 1000500}, {-501, 0, 1000000, 999500}, {math.MinInt, 0, 1000000, 999500},
		{0, -1, 10, 10}, {0, math.MinInt, 10, 10}, {0, api.MaxTime + 1, 10, api.MaxTime + 10}, {0, math.MaxInt, 10, api.MaxTime + 10},
		{500, 3, -1, 3}, {500, 3, math.MinInt, 3}, {0, 3, api.MaxTime + 1, api.MaxTime + 3}, {-500, 0, math.MaxInt, 1098961871962}, {math.MaxInt, math.MaxInt, math.MaxInt, 2199573011365}, {math.MinInt, math.MinInt, math.MinInt, 0},
	} {
		if got := clock.Local(api.Clock{PPM: c.ppm, Start: c.start}, c.t); got != c.want {
			t.Errorf("Local({%d, %d}, %d) = %d, want %d", c.ppm, c.start, c.t, got, c.want)
		}
	}
}

func TestP11_2LocalFollowsTheDefinition(t *testing.T) {
	random := rand.New(rand.NewSource(1))
	for _, c := range someClocks(random) {
		for _, at := range withRandomTimes(random, 100) {
			if got, want := clock.Local(c, at), local(c, at); got != want {
				t.Fatalf("Local(%v, %d) = %d, want %d", c, at, got, want)
			}
		}
	}
}

func TestP11_3RealExamples(t *testing.T) {
	for _, c := range []struct{ ppm, start, local, want int }{
		{-100, 0, 14998, 15000}, {-100, 0, 14997, 14999}, {-100, 0, 14999, 15001}, {0, 5, 3, 0}, {0, 5, 5, 0}, {0, 5, 6, 1}, {0, 5, -1, 0}, {0, 0, 77, 77},
		{500, 0, 1, 1}, {500, 0, 2, 2}, {500, 0, 2000, 2000}, {500, 0, 2001, 2000}, {500, 0, 2002, 2001}, {-500, 0, 0, 0}, {-500, 0, 1, 2}, {-500, 0, 2, 3}, {-500, 0, 1999, 2000}, {-500, 0, 2000, 2002},
		{250, 1000, 123456789, 123424933}, {-250, 1000, 123456789, 123486661}, {-499, 7, api.MaxTime / 2, 550030278991}, {333, api.MaxTime, api.MaxTime, 0}, {333, api.MaxTime, api.MaxTime + 1, 1}, {-333, api.MaxTime, api.MaxTime + 1, 2},
		{0, 0, api.MaxTime - 1, api.MaxTime - 1}, {0, 0, api.MaxTime, api.MaxTime}, {0, 0, api.MaxTime + 1, api.MaxTime}, {-333, api.MaxTime, 2 * api.MaxTime, api.MaxTime}, {500, 0, 1100061383588, api.MaxTime - 1}, {500, 0, 1100061383589, api.MaxTime}, {500, 0, 1100061383590, api.MaxTime},
		{-500, 0, 1098961871960, api.MaxTime - 2}, {-500, 0, 1098961871961, api.MaxTime - 1}, {-500, 0, 1098961871962, api.MaxTime}, {-500, 0, 1098961871963, api.MaxTime}, {0, 0, math.MaxInt, api.MaxTime}, {500, api.MaxTime, math.MaxInt, api.MaxTime}, {500, 0, math.MinInt, 0},
	} {
		if got := clock.Real(api.Clock{PPM: c.ppm, Start: c.start}, c.local); got != c.want {
			t.Errorf("Real({%d, %d}, %d) = %d, want %d", c.ppm, c.start, c.local, got, c.want)
		}
	}
}

func TestP11_3RealLimitsTheClock(t *testing.T) {
	for _, c := range []struct{ ppm, start, local, want int }{
		{501, 0, 2001, 2000}, {math.MaxInt, 0, 2001, 2000}, {-501, 0, 1999, 2000}, {-501, 0, 2000, 2002}, {math.MinInt, 0, 2000, 2002},
		{0, -1, 10, 10}, {0, math.MinInt, 10, 10}, {0, api.MaxTime + 1, api.MaxTime + 10, 10}, {0, math.MaxInt, api.MaxTime + 10, 10}, {math.MinInt, math.MaxInt, api.MaxTime + 2000, 2002},
	} {
		if got := clock.Real(api.Clock{PPM: c.ppm, Start: c.start}, c.local); got != c.want {
			t.Errorf("Real({%d, %d}, %d) = %d, want %d", c.ppm, c.start, c.local, got, c.want)
		}
	}
}

func TestP11_3RealFollowsTheDefinition(t *testing.T) {
	random := rand.New(rand.NewSource(2))
	for _, c := range someClocks(random) {
		for _, shown := range locals(random, c) {
			got := clock.Real(c, shown)
			if got < 0 || got > api.MaxTime {
				t.Fatalf("Real(%v, %d) = %d, which is no time", c, shown, got)
			}
			if got > 0 && local(c, got-1) >= shown {
				t.Fatalf("Real(%v, %d) = %d: %d is sooner", c, shown, got, got-1)
			}
			if got < api.MaxTime && local(c, got) < shown {
				t.Fatalf("Real(%v, %d) = %d: too soon", c, shown, got)
			}
		}
	}
}

func TestP11_4WideningExamples(t *testing.T) {
	for _, c := range []struct{ ppm, span, want int }{
		{70, 1000000, 102}, {70, 1, 33}, {-5, 1000, 32}, {0, 0, 32}, {0, api.MaxTime, 32}, {1, 0, 32}, {1000, 0, 32},
		{1, 1, 33}, {1, 999999, 33}, {1, 1000000, 33}, {1, 1000001, 34}, {3, 333333, 33}, {3, 333334, 34}, {1000, 999, 33}, {1000, 1000, 33}, {1000, 1001, 34}, {250, 4000000, 1032}, {40, 30000, 34},
		{500, api.MaxTime, 549755846}, {999, api.MaxTime, 1098412149}, {1000, api.MaxTime, 1099511660},
	} {
		if got := clock.Widening(c.ppm, c.span); got != c.want {
			t.Errorf("Widening(%d, %d) = %d, want %d", c.ppm, c.span, got, c.want)
		}
	}
}

func TestP11_4WideningLimitsItsArguments(t *testing.T) {
	for _, c := range []struct{ ppm, span, want int }{
		{1001, 1000000, 1032}, {math.MaxInt, 1000000, 1032}, {-1, 1000000, 32}, {math.MinInt, api.MaxTime, 32},
		{1000, -1, 32}, {1000, -1000000, 32}, {1000, math.MinInt, 32}, {1000, api.MaxTime + 1000, 1099511660}, {1000, math.MaxInt, 1099511660}, {math.MaxInt, math.MaxInt, 1099511660}, {-1000, -1000000, 32}, {math.MinInt, math.MinInt, 32},
	} {
		if got := clock.Widening(c.ppm, c.span); got != c.want {
			t.Errorf("Widening(%d, %d) = %d, want %d", c.ppm, c.span, got, c.want)
		}
	}
}

func TestP11_4WideningFollowsTheDefinition(t *testing.T) {
	random := rand.New(rand.NewSource(3))
	for _, ppm := range append(random.Perm(1100), deviations...) {
		for _, span := range withRandomTimes(random, 50) {
			if got, want := clock.Widening(ppm, span), widening(ppm, span); got != want {
				t.Fatalf("Widening(%d, %d) = %d, want %d", ppm, span, got, want)
			}
		}
	}
}

func TestP11_5OrderOfNeighbours(t *testing.T) {
	random := rand.New(rand.NewSource(4))
	for _, c := range someClocks(random) {
		for _, first := range withRandomTimes(random, 20) {
			last := saturated(first, 3000)
			for at := first; at < last; at++ {
				if step := clock.Local(c, at+1) - clock.Local(c, at); step < 0 || step > 2 {
					t.Fatalf("from %d to %d the clock %v advances by %d", at, at+1, c, step)
				}
			}
		}
	}
}

func TestP11_5StepsOfTwoAndOfNothing(t *testing.T) {
	fast, slow := api.Clock{PPM: 500}, api.Clock{PPM: -500}
	if step := clock.Local(fast, 2000) - clock.Local(fast, 1999); step != 2 {
		t.Errorf("the fast clock advances by %d", step)
	}
	if step := clock.Local(slow, 2001) - clock.Local(slow, 2000); step != 0 {
		t.Errorf("the slow clock advances by %d", step)
	}
}

func TestP11_5OrderOfDistantTimes(t *testing.T) {
	random := rand.New(rand.NewSource(5))
	for _, c := range someClocks(random) {
		for _, a := range withRandomTimes(random, 20) {
			for _, b := range withRandomTimes(random, 20) {
				if clock.Local(c, min(a, b)) > clock.Local(c, max(a, b)) {
					t.Fatalf("the clock %v goes back between %d and %d", c, a, b)
				}
			}
		}
	}
}

func TestP11_6First(t *testing.T) {
	random := rand.New(rand.NewSource(6))
	checked := 0
	for _, c := range someClocks(random) {
		for _, shown := range locals(random, c) {
			at := clock.Real(c, shown)
			if at == 0 || at == api.MaxTime {
				continue
			}
			checked++
			if now, before := clock.Local(c, at), clock.Local(c, at-1); before >= shown || now != shown && now != shown+1 {
				t.Fatalf("Real(%v, %d) = %d, where the clock shows %d after %d", c, shown, at, now, before)
			}
		}
	}
	if checked < 10000 {
		t.Errorf("only %d times were between the first and the last one", checked)
	}
}

func TestP11_6RealInvertsLocal(t *testing.T) {
	random := rand.New(rand.NewSource(7))
	for _, c := range someClocks(random) {
		for range 50 {
			at := random.Intn(api.MaxTime + 1)
			// A slow clock can have shown the same one microsecond before.
			if got := clock.Real(c, clock.Local(c, at)); got != at && (c.PPM >= 0 || got != at-1) {
				t.Fatalf("at %d the clock %v shows what it shows first at %d", at, c, got)
			}
		}
	}
}

func TestP11_7Drift(t *testing.T) {
	random := rand.New(rand.NewSource(8))
	for range 200000 {
		c, d := validClock(random), validClock(random)
		from := random.Intn(api.MaxTime + 1)
		to := from + random.Intn(min(api.MaxTime-from, 1<<random.Intn(41))+1)
		checkDrift(t, c, d, from, to)
	}
}

func TestP11_7DriftOfTheExtremes(t *testing.T) {
	for _, ppm := range []int{-500, -499, -1, 0, 1, 499, 500} {
		for _, other := range []int{-500, -499, -1, 0, 1, 499, 500} {
			for _, from := range []int{0, 1, 1999, 2000, 2001, 1000000, api.MaxTime - 1, api.MaxTime} {
				for _, to := range []int{0, 1, 1999, 2000, 2001, 1000000, api.MaxTime - 1, api.MaxTime} {
					checkDrift(t, api.Clock{PPM: ppm}, api.Clock{PPM: other, Start: api.MaxTime}, min(from, to), max(from, to))
				}
			}
		}
	}
}

func checkDrift(t *testing.T, c, d api.Clock, from, to int) {
	t.Helper()
	one, other := clock.Local(c, to)-clock.Local(c, from), clock.Local(d, to)-clock.Local(d, from)
	if limit := clock.Widening(distance(c.PPM, 0)+distance(d.PPM, 0), to-from); distance(one, other) > limit {
		t.Fatalf("from %d to %d the clocks %v and %v advance by %d and %d, which differ by more than %d", from, to, c, d, one, other, limit)
	}
}

func TestR1AllArguments(t *testing.T) {
	for _, ppm := range deviations {
		for _, start := range times {
			c := api.Clock{PPM: ppm, Start: start}
			clock.Check(c)
			for _, at := range times {
				if shown := clock.Local(c, at); shown < 0 || shown > 2*api.MaxTime+api.MaxTime/2000 {
					t.Fatalf("Local(%v, %d) = %d", c, at, shown)
				}
				if got := clock.Real(c, at); got < 0 || got > api.MaxTime {
					t.Fatalf("Real(%v, %d) = %d", c, at, got)
				}
			}
		}
	}
}

// limited returns the number from least to greatest that is nearest to n.
func limited(n, least, greatest int) *big.Int {
	switch {
	case n < least:
		n = least
	case n > greatest:
		n = greatest
	}
	return big.NewInt(int64(n))
}

// local is P11.2 with numbers of any size: Div rounds down, because the divisor is positive.
func local(c api.Clock, at int) int {
	ppm, start, span := limited(c.PPM, -500, 500), limited(c.Start, 0, 1<<40), limited(at, 0, 1<<40)
	drift := new(big.Int).Mul(span, ppm)
	drift.Div(drift, big.NewInt(1000000))
	return int(drift.Add(drift, span).Add(drift, start).Int64())
}

// widening is P11.4 with numbers of any size: what is rounded up is what is below the negative number rounded down.
func widening(ppm, span int) int {
	drift := new(big.Int).Mul(limited(ppm, 0, 1000), limited(span, 0, 1<<40))
	drift.Neg(drift).Div(drift, big.NewInt(1000000)).Neg(drift)
	return int(drift.Int64()) + 32
}

func distance(a, b int) int {
	return max(a, b) - min(a, b)
}

// saturated returns n + more, or the greatest number if that is none.
func saturated(n, more int) int {
	if n > math.MaxInt-more {
		return math.MaxInt
	}
	return n + more
}

func validClock(random *rand.Rand) api.Clock {
	return api.Clock{PPM: random.Intn(1001) - 500, Start: random.Intn(api.MaxTime + 1)}
}

// someClocks returns the clocks at the edges and random ones, most of them valid.
func someClocks(random *rand.Rand) []api.Clock {
	var list []api.Clock
	for _, ppm := range []int{math.MinInt, -501, -500, -499, -100, -1, 0, 1, 100, 499, 500, 501, math.MaxInt} {
		for _, start := range []int{math.MinInt, -1, 0, 1, 1000, api.MaxTime - 1, api.MaxTime, api.MaxTime + 1, math.MaxInt} {
			list = append(list, api.Clock{PPM: ppm, Start: start})
		}
	}
	for range 100 {
		list = append(list, validClock(random))
	}
	return list
}

// withRandomTimes returns the times at the edges and n random ones of different sizes.
func withRandomTimes(random *rand.Rand, n int) []int {
	list := append([]int(nil), times...)
	for range n {
		list = append(list, random.Intn(1<<random.Intn(42)))
	}
	return list
}

// locals returns numbers around what a clock shows at the times of withRandomTimes, and those times themselves.
func locals(random *rand.Rand, c api.Clock) []int {
	var list []int
	for _, at := range withRandomTimes(random, 30) {
		shown := local(c, at)
		list = append(list, at, shown-2, shown-1, shown, shown+1, shown+2)
	}
	return list
}
