package air_test

import (
	"math"
	"math/big"
	"math/rand"
	"slices"
	"sort"
	"testing"

	"wireless/air"
	"wireless/api"
)

// times are times around which mistakes are likely, valid ones and others.
var times = []int{math.MinInt, math.MinInt + 1, math.MinInt + 79, math.MinInt + 80, math.MinInt + 81, -1 << 32, -161, -160, -81, -80, -79, -1, 0, 1, 79, 80, 81, 159, 160, 161, 1 << 32, api.MaxTime - 80, api.MaxTime, api.MaxTime + 1, math.MaxInt - 161, math.MaxInt - 160, math.MaxInt - 81, math.MaxInt - 80, math.MaxInt - 79, math.MaxInt - 1, math.MaxInt}

// devices are numbers of devices around which mistakes are likely, valid ones and others.
var devices = []int{math.MinInt, -2, -1, 0, 1, 2, 3, 4, 7, 8, 9, math.MaxInt}

// line is the medium of the chapter's example: of three devices only neighbours are in range.
func line() api.Air {
	return api.Air{Devices: 3, Links: []api.Pair{{A: 0, B: 1}, {A: 1, B: 2}}}
}

// links returns pairs of devices.
func links(n ...int) []api.Pair {
	var l []api.Pair
	for c := range slices.Chunk(n, 2) {
		l = append(l, api.Pair{A: c[0], B: c[1]})
	}
	return l
}

// jams returns jams: for each of them a channel, a start and an end.
func jams(n ...int) []api.Jam {
	var l []api.Jam
	for c := range slices.Chunk(n, 3) {
		l = append(l, api.Jam{Channel: c[0], Start: c[1], End: c[2]})
	}
	return l
}

// losses returns losses: for each of them an ID and a device.
func losses(n ...int) []api.Loss {
	var l []api.Loss
	for c := range slices.Chunk(n, 2) {
		l = append(l, api.Loss{ID: c[0], To: c[1]})
	}
	return l
}

// packet returns ten bytes that tell by whom they were sent.
func packet(from int) []byte {
	return []byte{byte(from), 1, 2, 3, 4, 5, 6, 7, 8, 9}
}

func TestP15_1Airtime(t *testing.T) {
	for _, c := range []struct{ n, want int }{
		{0, 80}, {10, 160}, {1, 88}, {2, 96}, {260, 2160}, {253, 2104}, {1000000, 8000080}, {1 << 31, 17179869264}, {-1, 80}, {-10, 80}, {-11, 80}, {math.MinInt, 80}, {math.MinInt + 10, 80},
	} {
		if got := air.Airtime(c.n); got != c.want {
			t.Errorf("Airtime(%d) = %d, want %d", c.n, got, c.want)
		}
	}
	for n := range 3000 {
		if got := air.Airtime(n); got != 8*n+80 {
			t.Fatalf("Airtime(%d) = %d", n, got)
		}
	}
	air.Airtime(math.MaxInt)
}

func TestP15_1End(t *testing.T) {
	for _, c := range []struct{ start, size, want int }{
		{100, 10, 260}, {0, 0, 80}, {0, 260, 2160}, {api.MaxTime, 0, api.MaxTime + 80}, {-80, 0, 0}, {-1000, 5, -880}, {math.MinInt, 10, math.MinInt + 160}, {math.MaxInt - 160, 10, math.MaxInt}, {7, 70000, 560087},
	} {
		if got := air.End(api.Transmission{ID: 4, From: 3, Channel: 2, Start: c.start, Bytes: make([]byte, c.size)}); got != c.want {
			t.Errorf("End of %d bytes at %d = %d, want %d", c.size, c.start, got, c.want)
		}
	}
	air.End(api.Transmission{Start: math.MaxInt})
}

func TestP15_1OverlapExamples(t *testing.T) {
	first := api.Transmission{Start: 100, Bytes: packet(0)}
	for _, c := range []struct {
		channel, start, size int
		want                 bool
	}{
		{0, 260, 10, false}, {0, 259, 10, true}, {0, 261, 10, false}, {0, 100, 10, true}, {0, 100, 0, true}, {0, 20, 0, false}, {0, 21, 0, true}, {0, 19, 0, false}, {0, -60, 10, false}, {0, -59, 10, true}, {0, 0, 260, true}, {0, 120, 0, true},
		{1, 100, 10, false}, {-1, 100, 10, false}, {39, 259, 10, false}, {0, math.MinInt, 260, false}, {0, math.MaxInt, 260, false},
	} {
		other := api.Transmission{Channel: c.channel, Start: c.start, Bytes: make([]byte, c.size)}
		if air.Overlap(first, other) != c.want || air.Overlap(other, first) != c.want {
			t.Errorf("Overlap with %d bytes at %d on channel %d is not %t", c.size, c.start, c.channel, c.want)
		}
	}
	if !air.Overlap(first, first) {
		t.Error("a transmission does not overlap itself")
	}
	if !air.Overlap(api.Transmission{ID: 1, From: 1, Channel: -5, Start: -7}, api.Transmission{ID: 2, From: 2, Channel: -5, Start: -7}) {
		t.Error("transmissions that are not valid do not overlap")
	}
}

func TestP15_1OverlapFollowsTheDefinition(t *testing.T) {
	for _, a := range times {
		for _, b := range times {
			for _, sizes := range [][2]int{{0, 0}, {10, 0}, {0, 10}, {10, 10}, {260, 1}} {
				x := api.Transmission{Channel: 3, Start: a, Bytes: make([]byte, sizes[0])}
				y := api.Transmission{Channel: 3, Start: b, Bytes: make([]byte, sizes[1])}
				want := before(x, y) && before(y, x)
				if air.Overlap(x, y) != want {
					t.Errorf("Overlap of %d bytes at %d and %d bytes at %d is not %t", sizes[0], a, sizes[1], b, want)
				}
				if y.Channel = 4; air.Overlap(x, y) {
					t.Errorf("transmissions at %d and %d on different channels overlap", a, b)
				}
			}
		}
	}
}

func TestP15_2CheckOfTheMedium(t *testing.T) {
	for _, c := range []struct {
		comment string
		a       api.Air
		want    api.Errno
	}{
		{"nothing", api.Air{}, api.OK}, {"eight devices", api.Air{Devices: 8}, api.OK}, {"nine devices", api.Air{Devices: 9}, api.ErrRange}, {"-1 devices", api.Air{Devices: -1}, api.ErrRange}, {"the fewest devices", api.Air{Devices: math.MinInt}, api.ErrRange}, {"the most devices", api.Air{Devices: math.MaxInt}, api.ErrRange},
		{"the example", line(), api.OK}, {"all links of four", api.Air{Devices: 4, Links: links(0, 1, 0, 2, 0, 3, 1, 2, 1, 3, 2, 3)}, api.OK}, {"the last link", api.Air{Devices: 8, Links: links(6, 7)}, api.OK},
		{"A is -1", api.Air{Devices: 3, Links: links(-1, 1)}, api.ErrRange}, {"B is -1", api.Air{Devices: 3, Links: links(0, -1)}, api.ErrRange}, {"B is too great", api.Air{Devices: 3, Links: links(0, 3)}, api.ErrRange}, {"both are too great", api.Air{Devices: 3, Links: links(3, 4)}, api.ErrRange}, {"A is B", api.Air{Devices: 3, Links: links(1, 1)}, api.ErrRange}, {"A is above B", api.Air{Devices: 3, Links: links(2, 1)}, api.ErrRange}, {"a link without devices", api.Air{Links: links(0, 1)}, api.ErrRange}, {"far numbers", api.Air{Devices: 3, Links: links(math.MinInt, math.MaxInt)}, api.ErrRange},
		{"equal links", api.Air{Devices: 3, Links: links(0, 1, 0, 1)}, api.ErrOrder}, {"descending by A", api.Air{Devices: 3, Links: links(1, 2, 0, 1)}, api.ErrOrder}, {"descending by A only", api.Air{Devices: 4, Links: links(1, 2, 0, 3)}, api.ErrOrder}, {"descending by B", api.Air{Devices: 3, Links: links(0, 2, 0, 1)}, api.ErrOrder}, {"ascending by A only", api.Air{Devices: 4, Links: links(0, 3, 1, 2)}, api.OK},
		{"a range after an order", api.Air{Devices: 3, Links: links(0, 2, 0, 1, 0, 9)}, api.ErrOrder}, {"an order after a range", api.Air{Devices: 3, Links: links(0, 9, 0, 2, 0, 1)}, api.ErrRange}, {"both at one link", api.Air{Devices: 3, Links: links(0, 2, 0, 0)}, api.ErrRange}, {"the last of three links", api.Air{Devices: 3, Links: links(0, 1, 0, 2, 0, 2)}, api.ErrOrder},
		{"a jam on all channels", api.Air{Jams: jams(-1, 0, api.MaxTime)}, api.OK}, {"a jam on channel 0", api.Air{Jams: jams(0, 5, 5)}, api.OK}, {"a jam on channel 39", api.Air{Jams: jams(39, api.MaxTime, api.MaxTime)}, api.OK}, {"a jam on channel 40", api.Air{Jams: jams(40, 0, 1)}, api.ErrRange}, {"a jam on channel -2", api.Air{Jams: jams(-2, 0, 1)}, api.ErrRange}, {"a jam before 0", api.Air{Jams: jams(0, -1, 1)}, api.ErrRange}, {"a jam that ends first", api.Air{Jams: jams(0, 6, 5)}, api.ErrRange}, {"a jam after the end", api.Air{Jams: jams(0, 0, api.MaxTime+1)}, api.ErrRange}, {"a jam of everything", api.Air{Jams: jams(0, math.MinInt, math.MaxInt)}, api.ErrRange}, {"the second jam", api.Air{Jams: jams(-1, 7, 9, 0, 1, 0)}, api.ErrRange}, {"jams in any order", api.Air{Jams: jams(7, 7, 9, 0, 1, 2, 0, 1, 2)}, api.OK},
		{"a loss", api.Air{Devices: 1, Losses: losses(0, 0)}, api.OK}, {"losses of any ID", api.Air{Devices: 8, Losses: losses(math.MaxInt, 7, math.MinInt, 0, -1, 3, -1, 3)}, api.OK}, {"a loss for -1", api.Air{Devices: 2, Losses: losses(0, -1)}, api.ErrRange}, {"a loss for nobody", api.Air{Devices: 2, Losses: losses(0, 1, 0, 2)}, api.ErrRange}, {"a loss without devices", api.Air{Losses: losses(0, 0)}, api.ErrRange}, {"a loss for the greatest", api.Air{Devices: 8, Losses: losses(0, math.MaxInt)}, api.ErrRange},
		{"1000 jams and losses", api.Air{Devices: 1, Jams: make([]api.Jam, 1000), Losses: make([]api.Loss, 1000)}, api.OK}, {"1001 jams", api.Air{Devices: 1, Jams: make([]api.Jam, 1001)}, api.ErrTooLong}, {"1001 losses", api.Air{Devices: 1, Losses: make([]api.Loss, 1001)}, api.ErrTooLong}, {"too many of no device", api.Air{Devices: -1, Losses: make([]api.Loss, 1001)}, api.ErrRange}, {"too many and links", api.Air{Devices: 3, Links: links(1, 1), Jams: make([]api.Jam, 1001)}, api.ErrTooLong}, {"too many and order", api.Air{Devices: 3, Links: links(0, 1, 0, 1), Losses: make([]api.Loss, 1001)}, api.ErrTooLong},
		{"links before jams", api.Air{Devices: 3, Links: links(0, 1, 0, 1), Jams: jams(40, 0, 0)}, api.ErrOrder}, {"links before losses", api.Air{Devices: 3, Links: links(0, 1, 0, 1), Losses: losses(0, 3)}, api.ErrOrder},
	} {
		if got := air.Check(c.a, nil); got != c.want {
			t.Errorf("Check of %s = %d, want %d", c.comment, got, c.want)
		}
	}
}

func TestP15_2CheckOfTransmissions(t *testing.T) {
	type sent = []api.Transmission
	many := make(sent, 1001)
	for i := range many {
		many[i].ID = i
	}
	for _, c := range []struct {
		comment string
		l       sent
		want    api.Errno
	}{
		{"none", nil, api.OK}, {"the least", sent{{}}, api.OK}, {"the greatest", sent{{ID: 9, From: 2, Channel: 39, Start: api.MaxTime, Bytes: make([]byte, 260)}}, api.OK}, {"any IDs", sent{{ID: math.MinInt}, {ID: -1}, {ID: 0}, {ID: math.MaxInt}}, api.OK}, {"any starts", sent{{ID: 1, Start: 9}, {ID: 2, Start: 5}}, api.OK},
		{"equal IDs", sent{{ID: 3}, {ID: 3}}, api.ErrOrder}, {"descending IDs", sent{{ID: 3}, {ID: 2}}, api.ErrOrder}, {"the third ID", sent{{ID: 3}, {ID: 4}, {ID: 3}}, api.ErrOrder}, {"the farthest IDs", sent{{ID: math.MaxInt}, {ID: math.MinInt}}, api.ErrOrder},
		{"from -1", sent{{From: -1}}, api.ErrRange}, {"from 3", sent{{From: 3}}, api.ErrRange}, {"from far", sent{{From: math.MaxInt}}, api.ErrRange}, {"channel -1", sent{{Channel: -1}}, api.ErrRange}, {"channel 40", sent{{Channel: 40}}, api.ErrRange}, {"start -1", sent{{Start: -1}}, api.ErrRange}, {"a late start", sent{{Start: api.MaxTime + 1}}, api.ErrRange}, {"the latest start", sent{{Start: math.MaxInt}}, api.ErrRange},
		{"261 bytes", sent{{Bytes: make([]byte, 261)}}, api.ErrTooLong}, {"order before range", sent{{ID: 1}, {ID: 1, From: 3}}, api.ErrOrder}, {"order before length", sent{{ID: 1}, {ID: 1, Bytes: make([]byte, 261)}}, api.ErrOrder}, {"range before length", sent{{Channel: 40, Bytes: make([]byte, 261)}}, api.ErrRange}, {"length before the next order", sent{{Bytes: make([]byte, 261)}, {}}, api.ErrTooLong}, {"range before the next order", sent{{Start: -1}, {}}, api.ErrRange}, {"range before the next length", sent{{From: 5}, {ID: 1, Bytes: make([]byte, 261)}}, api.ErrRange},
		{"1000", many[:1000], api.OK}, {"1001", many, api.ErrTooLong}, {"1001 that are wrong", make(sent, 1001), api.ErrTooLong},
	} {
		if got := air.Check(line(), c.l); got != c.want {
			t.Errorf("Check of the transmissions %s = %d, want %d", c.comment, got, c.want)
		}
	}
	for _, c := range []struct {
		comment string
		a       api.Air
		l       sent
		want    api.Errno
	}{
		{"the devices first", api.Air{Devices: 9}, many, api.ErrRange}, {"the number before the links", api.Air{Devices: 3, Links: []api.Pair{{A: 1, B: 1}}}, many, api.ErrTooLong}, {"a jam first", api.Air{Devices: 3, Jams: []api.Jam{{Channel: 40}}}, sent{{}, {}}, api.ErrRange}, {"a loss first", api.Air{Devices: 3, Losses: []api.Loss{{To: 3}}}, sent{{}, {}}, api.ErrRange}, {"no devices", api.Air{}, sent{{}}, api.ErrRange}, {"no devices and no transmissions", api.Air{}, sent{}, api.OK}, {"eight devices", api.Air{Devices: 8}, sent{{From: 7}}, api.OK},
	} {
		if got := air.Check(c.a, c.l); got != c.want {
			t.Errorf("Check of %s = %d, want %d", c.comment, got, c.want)
		}
	}
}

func TestP15_3InRange(t *testing.T) {
	a := line()
	for _, c := range []struct {
		x, y int
		want bool
	}{
		{0, 1, true}, {1, 0, true}, {1, 2, true}, {2, 1, true}, {0, 2, false}, {2, 0, false}, {0, 0, false}, {1, 1, false}, {2, 2, false}, {0, 3, false}, {-1, 0, false}, {0, -1, false}, {math.MinInt, math.MaxInt, false},
	} {
		if got := air.InRange(a, c.x, c.y); got != c.want {
			t.Errorf("InRange(%d, %d) = %t", c.x, c.y, got)
		}
	}
	wrong := api.Air{Devices: -1, Links: []api.Pair{{A: 9, B: -3}, {A: 5, B: 5}, {A: 4, B: 2}, {A: 4, B: 2}, {A: math.MinInt, B: math.MaxInt}}}
	for _, x := range append([]int{-3, 5}, devices...) {
		for _, y := range append([]int{-3, 5}, devices...) {
			want := false
			for _, link := range wrong.Links {
				want = want || x == link.A && y == link.B || y == link.A && x == link.B
			}
			if got := air.InRange(wrong, x, y); got != want {
				t.Errorf("InRange(%d, %d) of a medium that is not valid = %t", x, y, got)
			}
		}
	}
	if air.InRange(api.Air{Devices: 8}, 0, 1) || air.InRange(api.Air{}, 0, 0) {
		t.Error("InRange without links")
	}
}

func TestP15_4DisturbedExamples(t *testing.T) {
	jam := func(channel, start, end int) api.Air {
		a := line()
		a.Jams = []api.Jam{{Channel: 9, Start: 0, End: 1000}, {Channel: channel, Start: start, End: end}}
		return a
	}
	loss := func(id, to int) api.Air {
		a := jam(5, 0, 1000)
		a.Losses = []api.Loss{{ID: 77, To: 1}, {ID: id, To: to}}
		return a
	}
	one := []api.Transmission{{ID: 4, From: 0, Channel: 5, Start: 0, Bytes: packet(0)}}
	for _, c := range []struct {
		comment string
		a       api.Air
		i, to   int
		want    int
	}{
		{"alone", line(), 0, 1, api.RxGood}, {"out of range", line(), 0, 2, 0}, {"for its sender", line(), 0, 0, 0}, {"for no device", line(), 0, 3, 0}, {"for -1", line(), 0, -1, 0}, {"index -1", line(), -1, 1, 0}, {"index 1", line(), 1, 1, 0}, {"far indices", line(), math.MaxInt, 1, 0}, {"far below", line(), math.MinInt, 1, 0},
		{"a jam afterwards", jam(-1, 160, 200), 0, 1, api.RxGood}, {"a jam at its end", jam(-1, 159, 160), 0, 1, api.RxJammed}, {"a jam on its channel", jam(5, 159, 1000), 0, 1, api.RxJammed}, {"a jam on another channel", jam(6, 0, 1000), 0, 1, api.RxGood}, {"a jam at its beginning", jam(5, 0, 1), 0, 1, api.RxJammed}, {"a jam that has ended", jam(5, 0, 0), 0, 1, api.RxGood}, {"a jam of no duration", jam(5, 80, 80), 0, 1, api.RxJammed}, {"a jam out of range", jam(5, 0, 1), 0, 2, 0},
		{"a loss", loss(4, 1), 0, 1, api.RxLost}, {"a loss of another ID", loss(5, 1), 0, 1, api.RxJammed}, {"a loss of another device", loss(4, 2), 0, 1, api.RxJammed}, {"a loss out of range", loss(4, 2), 0, 2, 0}, {"a loss at the sender", loss(4, 0), 0, 0, 0},
	} {
		if got := air.Disturbed(c.a, one, c.i, c.to); got != c.want {
			t.Errorf("Disturbed: %s: %d, want %d", c.comment, got, c.want)
		}
	}
}

func TestP15_4Collisions(t *testing.T) {
	for _, c := range []struct {
		comment string
		other   api.Transmission
		to      int
		want    int
	}{
		{"of a hidden sender", api.Transmission{ID: 9, From: 2, Channel: 5, Start: 1100, Bytes: packet(2)}, 1, api.RxCollided}, {"at its beginning", api.Transmission{ID: 9, From: 2, Channel: 5, Start: 841, Bytes: packet(2)}, 1, api.RxCollided}, {"before it", api.Transmission{ID: 9, From: 2, Channel: 5, Start: 840, Bytes: packet(2)}, 1, api.RxGood}, {"at its end", api.Transmission{ID: 9, From: 2, Channel: 5, Start: 1159}, 1, api.RxCollided}, {"after it", api.Transmission{ID: 9, From: 2, Channel: 5, Start: 1160}, 1, api.RxGood},
		{"on another channel", api.Transmission{ID: 9, From: 2, Channel: 6, Start: 1000}, 1, api.RxGood}, {"of a device out of range", api.Transmission{ID: 9, From: 3, Channel: 5, Start: 1000}, 1, api.RxGood}, {"of the same sender", api.Transmission{ID: 9, From: 0, Channel: 5, Start: 1159}, 1, api.RxCollided}, {"of the same sender elsewhere", api.Transmission{ID: 9, From: 0, Channel: 6, Start: 1159}, 1, api.RxGood},
		{"with its own on another channel", api.Transmission{ID: 9, From: 1, Channel: 7, Start: 1050, Bytes: packet(1)}, 1, api.RxCollided}, {"with its own on the channel", api.Transmission{ID: 9, From: 1, Channel: 5, Start: 1159}, 1, api.RxCollided}, {"with its own at the beginning", api.Transmission{ID: 9, From: 1, Channel: 7, Start: 841, Bytes: packet(1)}, 1, api.RxCollided}, {"with its own before", api.Transmission{ID: 9, From: 1, Channel: 7, Start: 840, Bytes: packet(1)}, 1, api.RxGood}, {"with its own after", api.Transmission{ID: 9, From: 1, Channel: 5, Start: 1160}, 1, api.RxGood},
		{"for a device out of range", api.Transmission{ID: 9, From: 2, Channel: 5, Start: 1000}, 2, 0},
	} {
		a := api.Air{Devices: 4, Links: []api.Pair{{A: 0, B: 1}, {A: 1, B: 2}, {A: 2, B: 3}}}
		sent := []api.Transmission{{ID: 4, From: 0, Channel: 5, Start: 1000, Bytes: packet(0)}, c.other}
		if got := air.Disturbed(a, sent, 0, c.to); got != c.want {
			t.Errorf("a collision %s: %d, want %d", c.comment, got, c.want)
		}
		sent[0].ID = 14
		slices.Reverse(sent)
		if got := air.Disturbed(a, sent, 1, c.to); got != c.want {
			t.Errorf("a collision %s, with the lower ID: %d, want %d", c.comment, got, c.want)
		}
		a.Jams = []api.Jam{{Channel: 5, Start: 1000, End: 1001}}
		if got := air.Disturbed(a, sent, 1, c.to); got != 0 && got != api.RxJammed {
			t.Errorf("a collision %s and a jam: %d", c.comment, got)
		}
		a.Losses = []api.Loss{{ID: 14, To: c.to}}
		if got := air.Disturbed(a, sent, 1, c.to); got != 0 && got != api.RxLost {
			t.Errorf("a collision %s and a loss: %d", c.comment, got)
		}
	}
}

func TestP15_4DisturbedFollowsTheDefinition(t *testing.T) {
	random := rand.New(rand.NewSource(1))
	kinds := map[int]int{}
	for range 4000 {
		a := someMedium(random)
		sent := someTransmissions(random, a)
		if e := air.Check(a, sent); e != api.OK {
			t.Fatalf("Check(%v, %v) = %d", a, sent, e)
		}
		for i := -1; i <= len(sent); i++ {
			for to := -1; to <= a.Devices; to++ {
				want := disturbed(a, sent, i, to)
				if got := air.Disturbed(a, sent, i, to); got != want {
					t.Fatalf("Disturbed(%v, %v, %d, %d) = %d, want %d", a, sent, i, to, got, want)
				}
				kinds[want]++
			}
		}
	}
	for kind := range 5 {
		if kinds[kind] < 100 {
			t.Errorf("the kind %d is seen only %d times", kind, kinds[kind])
		}
	}
}

func TestP15_5HearExamples(t *testing.T) {
	two := []api.Transmission{{ID: 1, From: 0, Channel: 5, Start: 0, Bytes: packet(0)}, {ID: 2, From: 2, Channel: 5, Start: 100, Bytes: packet(2)}}
	own := []api.Transmission{two[0], {ID: 2, From: 1, Channel: 7, Start: 50, Bytes: packet(1)}}
	for _, c := range []struct {
		comment string
		sent    []api.Transmission
		l       api.Listen
		want    api.Reception
		ok      bool
	}{
		{"the first one collided", two, api.Listen{Device: 1, Channel: 5, Start: 0, End: 50}, api.Reception{ID: 1, To: 1, Kind: api.RxCollided, Start: 0, End: 160}, true},
		{"the second one collided", two, api.Listen{Device: 1, Channel: 5, Start: 1, End: 101}, api.Reception{ID: 2, To: 1, Kind: api.RxCollided, Start: 100, End: 260}, true},
		{"too early", two, api.Listen{Device: 1, Channel: 5, Start: 1, End: 100}, api.Reception{}, false},
		{"too late", two, api.Listen{Device: 1, Channel: 5, Start: 101, End: 1000}, api.Reception{}, false},
		{"out of range", two[1:], api.Listen{Device: 0, Channel: 5, Start: 0, End: 1000}, api.Reception{}, false},
		{"its own", two, api.Listen{Device: 0, Channel: 5, Start: 0, End: 1000}, api.Reception{}, false},
		{"on another channel", two, api.Listen{Device: 1, Channel: 6, Start: 0, End: 1000}, api.Reception{}, false},
		{"on all channels", two, api.Listen{Device: 1, Channel: -1, Start: 0, End: 1000}, api.Reception{}, false},
		{"at no time", two, api.Listen{Device: 1, Channel: 5, Start: 0, End: 0}, api.Reception{}, false},
		{"backwards", two, api.Listen{Device: 1, Channel: 5, Start: 100, End: 0}, api.Reception{}, false},
		{"for one microsecond", two[:1], api.Listen{Device: 1, Channel: 5, Start: 0, End: 1}, api.Reception{ID: 1, To: 1, Kind: api.RxGood, Start: 0, End: 160, Bytes: packet(0)}, true},
		{"for ever", two[1:], api.Listen{Device: 1, Channel: 5, Start: math.MinInt, End: math.MaxInt}, api.Reception{ID: 2, To: 1, Kind: api.RxGood, Start: 100, End: 260, Bytes: packet(2)}, true},
		{"by nobody", two, api.Listen{Device: 3, Channel: 5, Start: 0, End: 1000}, api.Reception{}, false},
		{"by -1", two, api.Listen{Device: -1, Channel: 5, Start: 0, End: 1000}, api.Reception{}, false},
		{"nothing", nil, api.Listen{Device: 1, Channel: 5, Start: 0, End: 1000}, api.Reception{}, false},
		{"while it sends", own, api.Listen{Device: 1, Channel: 5, Start: 0, End: 1000}, api.Reception{ID: 1, To: 1, Kind: api.RxCollided, Start: 0, End: 160}, true},
		{"while the other sends", own, api.Listen{Device: 2, Channel: 7, Start: 0, End: 1000}, api.Reception{ID: 2, To: 2, Kind: api.RxGood, Start: 50, End: 210, Bytes: packet(1)}, true},
	} {
		if got, ok := air.Hear(line(), c.sent, c.l); ok != c.ok || !equal(got, c.want) {
			t.Errorf("Hear %s = %v, %t, want %v", c.comment, got, ok, c.want)
		}
	}
}

func TestP15_5HearTakesTheFirst(t *testing.T) {
	a := api.Air{Devices: 4, Links: []api.Pair{{A: 0, B: 3}, {A: 1, B: 3}, {A: 2, B: 3}}}
	listen := api.Listen{Device: 3, Channel: 0, Start: 0, End: 5000}
	for _, c := range []struct{ starts, want []int }{
		{[]int{10, 20, 30}, []int{0}}, {[]int{30, 20, 10}, []int{2}}, {[]int{20, 10, 30}, []int{1}}, {[]int{10, 10, 10}, []int{0}}, {[]int{20, 10, 10}, []int{1}}, {[]int{10, 20, 10}, []int{0}}, {[]int{5000, 4999, 5001}, []int{1}}, {[]int{5000, 5001, 6000}, nil},
	} {
		var sent []api.Transmission
		for i, start := range c.starts {
			sent = append(sent, api.Transmission{ID: i*3 - 4, From: i, Start: start})
		}
		got, ok := air.Hear(a, sent, listen)
		if ok != (len(c.want) > 0) || ok && got.ID != sent[c.want[0]].ID {
			t.Errorf("of the starts %v, Hear takes %v, %t", c.starts, got, ok)
		}
	}
}

func TestP15_5HearFollowsTheDefinition(t *testing.T) {
	random := rand.New(rand.NewSource(2))
	for range 3000 {
		a := someMedium(random)
		sent := someTransmissions(random, a)
		for _, l := range someListens(random, a) {
			want, wantOK := hear(a, sent, l)
			if got, ok := air.Hear(a, sent, l); ok != wantOK || !equal(got, want) {
				t.Fatalf("Hear(%v, %v, %v) = %v, %t, want %v, %t", a, sent, l, got, ok, want, wantOK)
			}
		}
	}
}

func TestP15_5HearReturnsNewMemory(t *testing.T) {
	whole := append(packet(0), 88, 99)
	before := slices.Clone(whole)
	sent := []api.Transmission{{Channel: 5, Bytes: whole[:10]}}
	for range 2 {
		r, ok := air.Hear(line(), sent, api.Listen{Device: 1, Channel: 5, End: 1})
		if !ok || !slices.Equal(r.Bytes, before[:10]) {
			t.Fatalf("Hear = %v, %t", r, ok)
		}
		overwrite(r.Bytes)
	}
	if !slices.Equal(whole, before) {
		t.Errorf("the argument became %v", whole)
	}
}

func TestP15_6AllExamples(t *testing.T) {
	a := api.Air{Devices: 4, Links: []api.Pair{{A: 0, B: 1}, {A: 0, B: 2}, {A: 0, B: 3}, {A: 1, B: 2}, {A: 1, B: 3}}}
	sent := []api.Transmission{{ID: 3, From: 0, Channel: 5, Start: 700, Bytes: packet(0)}, {ID: 5, From: 1, Channel: 6, Start: 100}, {ID: 8, From: 1, Channel: 7, Start: 700}}
	everything := func(device, channel int) api.Listen {
		return api.Listen{Device: device, Channel: channel, Start: 0, End: 1000}
	}
	late := api.Reception{ID: 3, To: 2, Kind: api.RxGood, Start: 700, End: 860, Bytes: packet(0)}
	other := late
	other.To = 3
	own := api.Reception{ID: 3, To: 1, Kind: api.RxCollided, Start: 700, End: 860}
	early := api.Reception{ID: 5, To: 3, Kind: api.RxGood, Start: 100, End: 180}
	last := api.Reception{ID: 8, To: 2, Kind: api.RxGood, Start: 700, End: 780}
	got := air.All(a, sent, []api.Listen{everything(2, 7), everything(3, 5), everything(2, 8), everything(2, 5), everything(1, 5), everything(3, 6), everything(2, 5), everything(9, 9)})
	want := []api.Reception{early, own, late, late, other, last}
	if !slices.EqualFunc(got, want, equal) {
		t.Errorf("All = %v, want %v", got, want)
	}
	if got := air.All(a, sent, nil); len(got) != 0 {
		t.Errorf("All without listens = %v", got)
	}
	if got := air.All(a, nil, []api.Listen{everything(2, 5)}); len(got) != 0 {
		t.Errorf("All without transmissions = %v", got)
	}
}

func TestP15_6AllFollowsTheDefinition(t *testing.T) {
	random := rand.New(rand.NewSource(3))
	for range 2000 {
		a := someMedium(random)
		sent := someTransmissions(random, a)
		listens := someListens(random, a)
		var want []api.Reception
		for _, l := range listens {
			if r, ok := hear(a, sent, l); ok {
				want = append(want, r)
			}
		}
		sort.SliceStable(want, func(i, j int) bool {
			x, y := want[i], want[j]
			return x.Start < y.Start || x.Start == y.Start && (x.ID < y.ID || x.ID == y.ID && x.To < y.To)
		})
		if got := air.All(a, sent, listens); !slices.EqualFunc(got, want, equal) {
			t.Fatalf("All(%v, %v, %v) = %v, want %v", a, sent, listens, got, want)
		}
	}
}

func TestP15_6AllReturnsNewMemory(t *testing.T) {
	sent := []api.Transmission{{Channel: 5, Bytes: packet(0)}}
	l := api.Listen{Device: 1, Channel: 5, End: 1}
	listens := []api.Listen{l, l, l, {Device: 7}}
	before := slices.Clone(listens)
	got := air.All(line(), sent, listens[:3])
	overwrite(got[0].Bytes)
	if !slices.Equal(got[1].Bytes, packet(0)) || !slices.Equal(got[2].Bytes, packet(0)) || !slices.Equal(sent[0].Bytes, packet(0)) || !slices.Equal(listens, before) {
		t.Errorf("the receptions share memory: %v", got)
	}
}

func TestP15_7UndisturbedIsReceivedUnchanged(t *testing.T) {
	random := rand.New(rand.NewSource(4))
	for range 2000 {
		a := someMedium(random)
		a.Jams, a.Losses = nil, nil
		sent := someTransmissions(random, a)[:1]
		one := sent[0]
		for device := range a.Devices {
			got, ok := air.Hear(a, sent, api.Listen{Device: device, Channel: one.Channel, Start: one.Start, End: one.Start + 1})
			if ok != air.InRange(a, device, one.From) {
				t.Fatalf("device %d hears %v in %v: %t", device, one, a, ok)
			}
			if want := (api.Reception{ID: one.ID, To: device, Kind: api.RxGood, Start: one.Start, End: air.End(one), Bytes: one.Bytes}); ok && !equal(got, want) {
				t.Fatalf("device %d hears %v of %v", device, got, one)
			}
		}
	}
}

func TestP15_7OverlappingIsNotReceived(t *testing.T) {
	random := rand.New(rand.NewSource(5))
	seen := 0
	for range 3000 {
		a := someMedium(random)
		sent := someTransmissions(random, a)
		for i, x := range sent {
			for j, y := range sent {
				for to := range a.Devices {
					if i == j || !air.Overlap(x, y) || !air.InRange(a, x.From, to) || !air.InRange(a, y.From, to) {
						continue
					}
					seen++
					if air.Disturbed(a, sent, i, to) == api.RxGood || air.Disturbed(a, sent, j, to) == api.RxGood {
						t.Fatalf("of the overlapping %v and %v in %v, device %d receives one", x, y, a, to)
					}
				}
			}
		}
	}
	if seen < 1000 {
		t.Errorf("only %d pairs overlap", seen)
	}
}

func TestP15_7OtherChannelsDoNotMatter(t *testing.T) {
	random := rand.New(rand.NewSource(6))
	for range 3000 {
		a := someMedium(random)
		sent := someTransmissions(random, a)
		for _, l := range someListens(random, a) {
			var near []api.Transmission
			for _, x := range sent {
				if x.Channel == l.Channel || x.From == l.Device {
					near = append(near, x)
				}
			}
			want, wantOK := air.Hear(a, near, l)
			if got, ok := air.Hear(a, sent, l); ok != wantOK || !equal(got, want) {
				t.Fatalf("with other channels, Hear(%v, %v, %v) = %v, %t", a, sent, l, got, ok)
			}
		}
	}
}

func TestNothingPanicsOnInvalidArguments(t *testing.T) {
	random := rand.New(rand.NewSource(7))
	number := func() int {
		return times[random.Intn(len(times))]
	}
	for range 3000 {
		a := api.Air{Devices: number(), Links: []api.Pair{{A: number() % 9, B: number() % 9}, {A: number(), B: number()}}, Jams: []api.Jam{{Channel: number(), Start: number(), End: number()}}, Losses: []api.Loss{{ID: number(), To: number()}}}
		var sent []api.Transmission
		for range random.Intn(5) {
			sent = append(sent, api.Transmission{ID: number(), From: number() % 9, Channel: number() % 3, Start: number(), Bytes: make([]byte, random.Intn(300))})
		}
		l := api.Listen{Device: number() % 9, Channel: number() % 3, Start: number(), End: number()}
		air.Check(a, sent)
		air.Disturbed(a, sent, number(), number())
		air.Disturbed(a, sent, random.Intn(5), number()%9)
		air.Hear(a, sent, l)
		air.All(a, sent, []api.Listen{l, {Device: number()}, l})
	}
}

// before tells by numbers of any size whether x starts before y ends.
func before(x, y api.Transmission) bool {
	end := new(big.Int).Add(big.NewInt(int64(y.Start)), big.NewInt(int64(8*(len(y.Bytes)+10))))
	return big.NewInt(int64(x.Start)).Cmp(end) < 0
}

// disturbed looks at every microsecond of a transmission, for small times.
func disturbed(a api.Air, sent []api.Transmission, i, to int) int {
	if i < 0 || i >= len(sent) {
		return 0
	}
	linked := map[[2]int]bool{}
	for _, link := range a.Links {
		linked[[2]int{link.A, link.B}] = true
		linked[[2]int{link.B, link.A}] = true
	}
	x := sent[i]
	if !linked[[2]int{x.From, to}] {
		return 0
	}
	occupied := map[int]bool{}
	for m := x.Start; m < x.Start+80+8*len(x.Bytes); m++ {
		occupied[m] = true
	}
	for _, loss := range a.Losses {
		if loss.ID == x.ID && loss.To == to {
			return 2
		}
	}
	for _, jam := range a.Jams {
		if jam.Channel != -1 && jam.Channel != x.Channel {
			continue
		}
		if jam.Start == jam.End && occupied[jam.Start] && occupied[jam.Start-1] {
			return 3
		}
		for m := jam.Start; m < jam.End; m++ {
			if occupied[m] {
				return 3
			}
		}
	}
	for j, y := range sent {
		if j == i || y.From != to && (y.Channel != x.Channel || !linked[[2]int{y.From, to}]) {
			continue
		}
		for m := y.Start; m < y.Start+80+8*len(y.Bytes); m++ {
			if occupied[m] {
				return 4
			}
		}
	}
	return 1
}

// hear sorts what is heard, and takes the first.
func hear(a api.Air, sent []api.Transmission, l api.Listen) (api.Reception, bool) {
	var heard []api.Reception
	for i, x := range sent {
		kind := disturbed(a, sent, i, l.Device)
		if kind == 0 || x.Channel != l.Channel || x.Start < l.Start || x.Start >= l.End {
			continue
		}
		r := api.Reception{ID: x.ID, To: l.Device, Kind: kind, Start: x.Start, End: x.Start + 80 + 8*len(x.Bytes)}
		if kind == 1 {
			r.Bytes = x.Bytes
		}
		heard = append(heard, r)
	}
	if len(heard) == 0 {
		return api.Reception{}, false
	}
	sort.Slice(heard, func(i, j int) bool {
		return heard[i].Start < heard[j].Start || heard[i].Start == heard[j].Start && heard[i].ID < heard[j].ID
	})
	return heard[0], true
}

// someMedium returns a valid medium at small times, so that its parts meet.
func someMedium(random *rand.Rand) api.Air {
	a := api.Air{Devices: 2 + random.Intn(4)}
	for x := range a.Devices {
		for y := x + 1; y < a.Devices; y++ {
			if random.Intn(3) > 0 {
				a.Links = append(a.Links, api.Pair{A: x, B: y})
			}
		}
	}
	for range random.Intn(3) {
		start := random.Intn(600)
		a.Jams = append(a.Jams, api.Jam{Channel: random.Intn(4) - 1, Start: start, End: start + random.Intn(4)*random.Intn(50)})
	}
	for range random.Intn(4) {
		a.Losses = append(a.Losses, api.Loss{ID: random.Intn(20), To: random.Intn(a.Devices)})
	}
	return a
}

// someTransmissions returns at least one valid transmission on the channels 0 to 2.
func someTransmissions(random *rand.Rand, a api.Air) []api.Transmission {
	var sent []api.Transmission
	id := 0
	for range 1 + random.Intn(6) {
		id += 1 + random.Intn(4)
		b := make([]byte, random.Intn(4)*random.Intn(8))
		random.Read(b)
		sent = append(sent, api.Transmission{ID: id, From: random.Intn(a.Devices), Channel: random.Intn(3), Start: 8 * random.Intn(75), Bytes: b})
	}
	return sent
}

// someListens returns receivers that are on for shorter and longer times.
func someListens(random *rand.Rand, a api.Air) []api.Listen {
	var listens []api.Listen
	for range random.Intn(10) {
		start := 8*random.Intn(75) - 8
		listens = append(listens, api.Listen{Device: random.Intn(a.Devices+2) - 1, Channel: random.Intn(4) - 1, Start: start, End: start + random.Intn(4)*random.Intn(300)})
	}
	return listens
}

func equal(x, y api.Reception) bool {
	return x.ID == y.ID && x.To == y.To && x.Kind == y.Kind && x.Start == y.Start && x.End == y.End && slices.Equal(x.Bytes, y.Bytes)
}

// overwrite changes all bytes, those of the spare capacity as well.
func overwrite(b []byte) {
	b = b[:cap(b)]
	for i := range b {
		b[i] ^= 0xff
	}
}
