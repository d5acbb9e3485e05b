package assess_test

import (
	"math"
	"math/big"
	"math/rand"
	"slices"
	"sort"
	"testing"

	"wireless/api"
	"wireless/assess"
)

// counts are counts around which mistakes are likely, valid ones and others.
var counts = []int{math.MinInt, math.MinInt + 1, -api.MaxBytes, -8, -2, -1, 0, 1, 2, 3, 4, 5, 6, 7, 8, 9, 10, 20, 24, 25, 249, 250, 251, 999, 1000, 32767, 32768, 65534, 65535, api.MaxBytes, api.MaxBytes + 1, 1 << 32, math.MaxInt/1000 + 1, math.MaxInt - 1, math.MaxInt}

// indices are channels around which mistakes are likely, valid ones and others.
var indices = []int{math.MinInt, -1 << 32, -37, -2, -1, 0, 1, 2, 3, 4, 5, 18, 35, 36, 37, 38, 39, 40, 64, 1 << 32, math.MaxInt}

// four are the tallies of the chapter's example.
var four = []api.Tally{{Good: 0, Bad: 8}, {Good: 6, Bad: 2}, {Good: 4, Bad: 4}, {Good: 8, Bad: 0}}

func TestP14_1Fresh(t *testing.T) {
	first := assess.Fresh()
	if len(first) != 37 {
		t.Fatalf("there are %d fresh tallies", len(first))
	}
	for channel, tally := range first {
		if tally != (api.Tally{}) {
			t.Errorf("the fresh tally of %d is %v", channel, tally)
		}
		first[channel] = api.Tally{Good: 1, Bad: 1}
	}
	if second := assess.Fresh(); !slices.Equal(second, make([]api.Tally, 37)) {
		t.Errorf("the fresh tallies became %v", second)
	}
}

func TestP14_1RecordExamples(t *testing.T) {
	for _, c := range []struct {
		before  api.Tally
		ok      bool
		want    api.Tally
		comment string
	}{
		{api.Tally{}, true, api.Tally{Good: 1}, "good"}, {api.Tally{}, false, api.Tally{Bad: 1}, "bad"}, {api.Tally{Good: 3, Bad: 5}, true, api.Tally{Good: 4, Bad: 5}, "good"}, {api.Tally{Good: 3, Bad: 5}, false, api.Tally{Good: 3, Bad: 6}, "bad"},
		{api.Tally{Good: 65535, Bad: 65535}, true, api.Tally{Good: 65536, Bad: 65535}, "the last good one"}, {api.Tally{Good: 65535, Bad: 65535}, false, api.Tally{Good: 65535, Bad: 65536}, "the last bad one"},
		{api.Tally{Good: 65536, Bad: 5}, true, api.Tally{Good: 65536, Bad: 5}, "the limit"}, {api.Tally{Good: 65536, Bad: 5}, false, api.Tally{Good: 65536, Bad: 6}, "the limit of the other one"}, {api.Tally{Good: 5, Bad: 65536}, false, api.Tally{Good: 5, Bad: 65536}, "the limit"}, {api.Tally{Good: 5, Bad: 65536}, true, api.Tally{Good: 6, Bad: 65536}, "the limit of the other one"},
		{api.Tally{Good: 65537, Bad: 0}, true, api.Tally{Good: 65537, Bad: 0}, "above the limit"}, {api.Tally{Good: 0, Bad: 70000}, false, api.Tally{Good: 0, Bad: 70000}, "above the limit"}, {api.Tally{Good: math.MaxInt, Bad: math.MaxInt}, true, api.Tally{Good: math.MaxInt, Bad: math.MaxInt}, "the edge"}, {api.Tally{Good: math.MaxInt, Bad: math.MaxInt}, false, api.Tally{Good: math.MaxInt, Bad: math.MaxInt}, "the edge"},
		{api.Tally{Good: -5, Bad: -1}, true, api.Tally{Good: -4, Bad: -1}, "the field itself"}, {api.Tally{Good: -5, Bad: -1}, false, api.Tally{Good: -5, Bad: 0}, "the field itself"}, {api.Tally{Good: math.MinInt, Bad: math.MinInt}, true, api.Tally{Good: math.MinInt + 1, Bad: math.MinInt}, "the edge"}, {api.Tally{Good: math.MinInt, Bad: math.MinInt}, false, api.Tally{Good: math.MinInt, Bad: math.MinInt + 1}, "the edge"},
	} {
		other := api.Tally{Good: 70000, Bad: -70000}
		got := assess.Record([]api.Tally{other, c.before, other}, 1, c.ok)
		if !slices.Equal(got, []api.Tally{other, c.want, other}) {
			t.Errorf("Record of %v, %t = %v, want %v (%s)", c.before, c.ok, got, c.want, c.comment)
		}
	}
}

func TestP14_1RecordOfEveryIndex(t *testing.T) {
	for _, size := range []int{0, 1, 2, 36, 37, 38, 40, 64, 100} {
		l := someTallies(rand.New(rand.NewSource(int64(size))), size)
		for _, channel := range append([]int{size - 1, size, size + 1, size + 37}, indices...) {
			for _, ok := range []bool{false, true} {
				want := slices.Clone(l)
				for i := range want {
					if i != channel {
						continue
					}
					if ok && want[i].Good < 65536 {
						want[i].Good++
					}
					if !ok && want[i].Bad < 65536 {
						want[i].Bad++
					}
				}
				if got := assess.Record(l, channel, ok); !slices.Equal(got, want) {
					t.Fatalf("Record of %d tallies on channel %d, %t = %v, want %v", size, channel, ok, got, want)
				}
			}
		}
	}
	for _, channel := range indices {
		if got := assess.Record(nil, channel, true); len(got) != 0 {
			t.Errorf("Record of no tallies on channel %d = %v", channel, got)
		}
	}
}

func TestP14_1RecordReturnsNewMemory(t *testing.T) {
	for _, channel := range []int{-1, 0, 3, 4, 5, 36} {
		for _, ok := range []bool{false, true} {
			whole := append(slices.Clone(four), api.Tally{Good: 11, Bad: 12}, api.Tally{Good: 13, Bad: 14})
			before := slices.Clone(whole)
			got := assess.Record(whole[:4], channel, ok)
			got = got[:cap(got)]
			for i := range got {
				got[i] = api.Tally{Good: 99, Bad: 99}
			}
			if !slices.Equal(whole, before) {
				t.Errorf("Record on channel %d, %t: the argument became %v", channel, ok, whole)
			}
		}
	}
}

func TestP14_2RateExamples(t *testing.T) {
	for _, c := range []struct{ good, bad, want int }{
		{6, 2, 250}, {7, 1, 125}, {0, 7, 1000}, {-5, 1, 1000}, {0, 0, 0}, {8, 0, 0}, {1, 0, 0}, {0, 1, 1000}, {1, 1, 500}, {2, 1, 333}, {1, 2, 666}, {999, 1, 1}, {1000, 1, 0}, {751, 250, 249}, {1, 65535, 999}, {1, 999, 999}, {1, 998, 998},
		{-1, -1, 0}, {5, -1, 0}, {-1, 0, 0}, {0, -1, 0}, {math.MinInt, math.MinInt, 0}, {math.MinInt, 3, 1000}, {3, math.MinInt, 0},
		{65536, 65536, 500}, {65537, 65536, 500}, {65536, 65537, 500}, {math.MaxInt, math.MaxInt, 500}, {math.MaxInt, 65536, 500}, {65536, math.MaxInt, 500}, {0, math.MaxInt, 1000}, {math.MaxInt, 1, 0}, {1, math.MaxInt, 999}, {131072, 32768, 333}, {32768, 131072, 666}, {math.MinInt, math.MaxInt, 1000},
	} {
		if got := assess.Rate(api.Tally{Good: c.good, Bad: c.bad}); got != c.want {
			t.Errorf("Rate({%d, %d}) = %d, want %d", c.good, c.bad, got, c.want)
		}
	}
}

func TestP14_2BadExamples(t *testing.T) {
	for _, c := range []struct {
		good, bad int
		want      bool
	}{
		{6, 2, true}, {7, 1, false}, {0, 7, false}, {0, 8, true}, {1, 7, true}, {1, 6, false}, {5, 2, false}, {5, 3, true}, {8, 0, false}, {0, 0, false}, {7, 2, false}, {9, 3, true}, {10, 3, false}, {750, 250, true}, {751, 250, false}, {3001, 1000, false}, {3000, 1000, true},
		{-5, 7, false}, {-5, 8, true}, {math.MinInt, 8, true}, {math.MinInt, 7, false}, {8, -1, false}, {9, math.MinInt, false}, {-10, 18, true}, {-1, -1, false},
		{65536, 21845, false}, {65536, 21846, true}, {math.MaxInt, 21845, false}, {math.MaxInt, 21846, true}, {65536, 65536, true}, {math.MaxInt, math.MaxInt, true}, {0, math.MaxInt, true}, {math.MaxInt, 0, false}, {1000000, 100000, true}, {196609, 65536, true},
	} {
		if got := assess.Bad(api.Tally{Good: c.good, Bad: c.bad}); got != c.want {
			t.Errorf("Bad({%d, %d}) = %t", c.good, c.bad, got)
		}
	}
}

func TestP14_2FollowsTheDefinition(t *testing.T) {
	check := func(tally api.Tally) {
		if got, want := assess.Rate(tally), rate(tally); got != want {
			t.Fatalf("Rate(%v) = %d, want %d", tally, got, want)
		}
		if got, want := assess.Bad(tally), bad(tally); got != want {
			t.Fatalf("Bad(%v) = %t", tally, got)
		}
	}
	for _, good := range counts {
		for _, wrong := range counts {
			check(api.Tally{Good: good, Bad: wrong})
		}
	}
	for good := -10; good < 150; good++ {
		for wrong := -10; wrong < 150; wrong++ {
			check(api.Tally{Good: good, Bad: wrong})
		}
	}
	random := rand.New(rand.NewSource(1))
	for range 50000 {
		check(api.Tally{Good: random.Intn(70000), Bad: random.Intn(70000)})
	}
}

func TestP14_3DecayExamples(t *testing.T) {
	for _, c := range []struct{ before, want api.Tally }{
		{api.Tally{Good: 5, Bad: 1}, api.Tally{Good: 2}}, {api.Tally{Good: -2}, api.Tally{}}, {api.Tally{Good: 1, Bad: 2}, api.Tally{Bad: 1}}, {api.Tally{Good: 4, Bad: 6}, api.Tally{Good: 2, Bad: 3}}, {api.Tally{}, api.Tally{}}, {api.Tally{Good: -1, Bad: -1}, api.Tally{}}, {api.Tally{Good: math.MinInt, Bad: math.MinInt}, api.Tally{}},
		{api.Tally{Good: 65535, Bad: 65536}, api.Tally{Good: 32767, Bad: 32768}}, {api.Tally{Good: 65537, Bad: 65538}, api.Tally{Good: 32768, Bad: 32768}}, {api.Tally{Good: math.MaxInt, Bad: math.MaxInt}, api.Tally{Good: 32768, Bad: 32768}},
	} {
		if got := assess.Decay([]api.Tally{c.before}); !slices.Equal(got, []api.Tally{c.want}) {
			t.Errorf("Decay of %v = %v, want %v", c.before, got, c.want)
		}
	}
}

func TestP14_3DecayOfLists(t *testing.T) {
	if got := assess.Decay(nil); len(got) != 0 {
		t.Errorf("Decay of no tallies = %v", got)
	}
	for _, size := range []int{0, 1, 2, 36, 37, 38, 64, 100} {
		whole := someTallies(rand.New(rand.NewSource(int64(size))), size+2)
		before := slices.Clone(whole)
		got := assess.Decay(whole[:size])
		var want []api.Tally
		for _, tally := range whole[:size] {
			want = append(want, api.Tally{Good: int(math.Floor(float64(clamp(tally.Good)) / 2)), Bad: int(math.Floor(float64(clamp(tally.Bad)) / 2))})
		}
		if !slices.Equal(got, want) {
			t.Errorf("Decay of %v = %v, want %v", whole[:size], got, want)
		}
		clear(got[:cap(got)])
		if !slices.Equal(whole, before) {
			t.Errorf("the argument became %v", whole)
		}
	}
}

func TestP14_4ProposeExamples(t *testing.T) {
	tie := []api.Tally{{Good: 4, Bad: 4}, {Good: 0, Bad: 7}, {Good: 5, Bad: 5}, {Good: 6, Bad: 6}, {Good: 3, Bad: 5}}
	long := slices.Repeat([]api.Tally{{Good: 0, Bad: 9}}, 64)
	for _, c := range []struct {
		l     []api.Tally
		m     api.ChannelMap
		least int
		want  api.ChannelMap
	}{
		{four, 15, 2, 10}, {four, 15, 3, 14}, {four, 15, 0, 10}, {four, 15, 4, 15}, {four, 15, 5, 15}, {four, 15, 37, 15}, {four, 15, 1, 10}, {four, 15, -1, 10}, {four, 15, math.MinInt, 10}, {four, 15, math.MaxInt, 15}, {four, 15, 38, 15},
		{four, 7, 2, 6}, {four, 7, 0, 6}, {four, 7, 3, 7}, {four, 3, 2, 3}, {four, 3, 0, 3}, {four, 1, 0, 1}, {four, 0, 0, 0}, {four, 8, 5, 8}, {four, 14, 2, 10}, {four, 15 | 1<<36, 2, 8 | 1<<36}, {four, 15 | 1<<36, 3, 10 | 1<<36}, {four, 15 | 1<<36, 4, 14 | 1<<36},
		{four, api.AllChannels, 2, api.AllChannels &^ 7}, {four, api.AllChannels, 34, api.AllChannels &^ 7}, {four, api.AllChannels, 35, api.AllChannels &^ 5}, {four, api.AllChannels, 36, api.AllChannels &^ 1}, {four, api.AllChannels, 37, api.AllChannels}, {four, api.AllChannels, 38, api.AllChannels}, {four, api.AllChannels, math.MaxInt, api.AllChannels},
		{four, 15 | 1<<37, 2, 10}, {four, 15 | 1<<63, 3, 14}, {four, 3 | 7<<37, 0, 3}, {four, math.MaxUint64, 2, api.AllChannels &^ 7}, {four, ^api.AllChannels, 2, 0}, {four, 1<<40 | 1, 0, 1},
		{tie, 31, 4, 15}, {tie, 31, 3, 14}, {tie, 31, 2, 10}, {tie, 30, 2, 10}, {tie, 29, 2, 12}, {tie, 31 | 1<<20, 2, 2 | 1<<20},
		{nil, api.AllChannels, 2, api.AllChannels}, {nil, 33, 0, 33}, {make([]api.Tally, 37), even(), 2, even()}, {[]api.Tally{{Good: -100, Bad: 8}}, 7, 2, 6}, {[]api.Tally{{Good: -100, Bad: 7}}, 7, 2, 7},
		{long, api.AllChannels, 2, 3 << 35}, {long[:37], api.AllChannels, 2, 3 << 35}, {long[:36], api.AllChannels, 2, 3 << 35}, {long[:35], api.AllChannels, 2, 3 << 35}, {long[:34], api.AllChannels, 2, 7 << 34}, {long, math.MaxUint64, 10, api.AllChannels &^ (1<<27 - 1)}, {long, 33 | 1<<45, 2, 33},
	} {
		if got := assess.Propose(c.l, c.m, c.least); got != c.want {
			t.Errorf("Propose(%v, %x, %d) = %x, want %x", c.l, uint64(c.m), c.least, uint64(got), uint64(c.want))
		}
	}
}

func TestP14_4ProposeFollowsTheDefinition(t *testing.T) {
	removed := 0
	forProposals(func(l []api.Tally, m api.ChannelMap, least int) {
		before := slices.Clone(l)
		got, want := assess.Propose(l, m, least), propose(l, m, least)
		if got != want {
			t.Fatalf("Propose(%v, %x, %d) = %x, want %x", l, uint64(m), least, uint64(got), uint64(want))
		}
		if !slices.Equal(l, before) {
			t.Fatalf("the argument became %v", l)
		}
		removed += len(channels(m)) - len(channels(got))
	})
	if removed < 10000 {
		t.Errorf("only %d channels were removed", removed)
	}
}

func TestP14_5Proposal(t *testing.T) {
	forProposals(func(l []api.Tally, m api.ChannelMap, least int) {
		got := assess.Propose(l, m, least)
		before, after, kept := len(channels(m)), len(channels(got)), max(2, min(least, 37))
		if got&^m != 0 || after < min(kept, before) {
			t.Fatalf("Propose(%v, %x, %d) = %x", l, uint64(m), least, uint64(got))
		}
		for _, gone := range channels(m &^ got) {
			if gone >= len(l) || !assess.Bad(l[gone]) {
				t.Fatalf("Propose(%v, %x, %d) removed %d, which is not bad", l, uint64(m), least, gone)
			}
			for _, channel := range channels(got) {
				if channel < len(l) && assess.Bad(l[channel]) && (after != kept || assess.Rate(l[gone]) < assess.Rate(l[channel])) {
					t.Fatalf("Propose(%v, %x, %d) removed %d, not %d", l, uint64(m), least, gone, channel)
				}
			}
		}
		// Without a removal a bad channel remains only because there was none to spare.
		for _, channel := range channels(got) {
			if after == before && before > kept && channel < len(l) && assess.Bad(l[channel]) {
				t.Fatalf("Propose(%v, %x, %d) did not remove %d", l, uint64(m), least, channel)
			}
		}
	})
}

func TestP14_6CountsAreThoseOfThePackets(t *testing.T) {
	random := rand.New(rand.NewSource(2))
	l := assess.Fresh()
	want := make([]api.Tally, 37)
	for range 20000 {
		channel, ok := random.Intn(37), random.Intn(3) > 0
		l = assess.Record(l, channel, ok)
		if ok {
			want[channel].Good++
		} else {
			want[channel].Bad++
		}
		if l[channel] != want[channel] {
			t.Fatalf("the tally of %d is %v, want %v", channel, l[channel], want[channel])
		}
	}
	if !slices.Equal(l, want) {
		t.Errorf("the tallies are %v, want %v", l, want)
	}
}

func TestP14_6CountsEndAtTheLimit(t *testing.T) {
	l := assess.Fresh()
	for i := range api.MaxBytes + 10 {
		l = assess.Record(l, 36, true)
		if want := min(i+1, 65536); l[36] != (api.Tally{Good: want}) {
			t.Fatalf("after %d good packets the tally is %v", i+1, l[36])
		}
	}
	l = assess.Record(l, 36, false)
	if l[36] != (api.Tally{Good: 65536, Bad: 1}) {
		t.Errorf("after a bad packet the tally is %v", l[36])
	}
}

// forProposals calls f with arguments of Propose at the edges and random ones.
func forProposals(f func(l []api.Tally, m api.ChannelMap, least int)) {
	random := rand.New(rand.NewSource(3))
	leasts := []int{math.MinInt, -1, 0, 1, 2, 3, 5, 10, 20, 30, 35, 36, 37, 38, math.MaxInt}
	for range 400 {
		size := random.Intn(45)
		l := someTallies(random, size)
		if random.Intn(2) == 0 {
			// Small counts bring equal rates and the edges of Bad.
			for i := range l {
				l[i] = api.Tally{Good: random.Intn(10) - 1, Bad: random.Intn(10) - 1}
			}
		}
		for _, m := range []api.ChannelMap{0, 1, 33, 1 << 36, api.AllChannels, even(), math.MaxUint64, ^api.AllChannels, api.ChannelMap(random.Uint64()), api.ChannelMap(random.Uint64() & random.Uint64())} {
			for _, least := range leasts {
				f(l, m, least)
			}
		}
	}
}

// someTallies returns tallies with counts at the edges and random ones.
func someTallies(random *rand.Rand, size int) []api.Tally {
	count := func() int {
		if random.Intn(3) == 0 {
			return counts[random.Intn(len(counts))]
		}
		return random.Intn(30)
	}
	l := make([]api.Tally, size)
	for i := range l {
		l[i] = api.Tally{Good: count(), Bad: count()}
	}
	return l
}

// even returns the map of every other channel.
func even() api.ChannelMap {
	return 0x1555555555
}

// channels returns the data channels of a map.
func channels(m api.ChannelMap) []int {
	var list []int
	for channel := range 37 {
		if uint64(m)>>channel%2 == 1 {
			list = append(list, channel)
		}
	}
	return list
}

func clamp(count int) int {
	switch {
	case count < 0:
		return 0
	case count > 65536:
		return 65536
	}
	return count
}

// rate computes the quotient as a fraction.
func rate(t api.Tally) int {
	good, wrong := clamp(t.Good), clamp(t.Bad)
	if good+wrong == 0 {
		return 0
	}
	r := big.NewRat(int64(wrong), int64(good+wrong))
	r.Mul(r, big.NewRat(1000, 1))
	return int(new(big.Int).Div(r.Num(), r.Denom()).Int64())
}

// bad compares the counts themselves: a quarter of a thousand is a quarter of the packets.
func bad(t api.Tally) bool {
	good, wrong := clamp(t.Good), clamp(t.Bad)
	return good+wrong >= 8 && 3*wrong >= good
}

// propose removes the first of the bad channels, which it sorts by their rates.
func propose(l []api.Tally, m api.ChannelMap, least int) api.ChannelMap {
	var wrong []int
	for _, channel := range channels(m) {
		if channel < len(l) && bad(l[channel]) {
			wrong = append(wrong, channel)
		}
	}
	sort.SliceStable(wrong, func(i, j int) bool { return rate(l[wrong[i]]) > rate(l[wrong[j]]) })
	if least < 2 {
		least = 2
	}
	if least > 37 {
		least = 37
	}
	spare := len(channels(m)) - least
	proposed := api.ChannelMap(0)
	for _, channel := range channels(m) {
		if at := slices.Index(wrong, channel); at < 0 || at >= spare {
			proposed += 1 << channel
		}
	}
	return proposed
}
