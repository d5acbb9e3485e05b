package chanmap_test

import (
	"bytes"
	"fmt"
	"math"
	"math/rand"
	"regexp"
	"slices"
	"strconv"
	"strings"
	"testing"

	"wireless/api"
	"wireless/chanmap"
)

const (
	// even and odd are the maps of every other channel.
	even api.ChannelMap = 0x1555555555
	odd  api.ChannelMap = 0x0aaaaaaaaa
)

// numbers are channels and indices around which mistakes are likely, valid ones and others.
var numbers = []int{math.MinInt, math.MinInt + 1, -65, -64, -63, -37, -2, -1, 0, 1, 2, 9, 10, 11, 18, 31, 32, 35, 36, 37, 38, 39, 40, 41, 63, 64, 65, 100, 128, 1 << 32, 1<<32 + 5, math.MaxInt - 1, math.MaxInt}

func TestP12_1CheckExamples(t *testing.T) {
	for _, c := range []struct {
		m    api.ChannelMap
		want api.Errno
	}{
		{33, api.OK}, {3, api.OK}, {1 | 1<<36, api.OK}, {3 << 35, api.OK}, {api.AllChannels, api.OK}, {even, api.OK},
		{0, api.ErrInvalid}, {1, api.ErrInvalid}, {1 << 36, api.ErrInvalid}, {1 << 18, api.ErrInvalid},
		{1 << 37, api.ErrRange}, {1 << 63, api.ErrRange}, {33 | 1<<37, api.ErrRange}, {33 | 1<<63, api.ErrRange}, {1 | 1<<37, api.ErrRange}, {3 << 37, api.ErrRange}, {1<<38 - 1, api.ErrRange}, {math.MaxUint64, api.ErrRange}, {^api.AllChannels, api.ErrRange},
	} {
		if got := chanmap.Check(c.m); got != c.want {
			t.Errorf("Check(%x) = %v, want %v", uint64(c.m), got, c.want)
		}
	}
}

func TestP12_1CheckFollowsTheDefinition(t *testing.T) {
	for _, m := range someMaps() {
		if got, want := chanmap.Check(m), check(m); got != want {
			t.Fatalf("Check(%x) = %v, want %v", uint64(m), got, want)
		}
	}
}

func TestP12_2Examples(t *testing.T) {
	for _, c := range []struct {
		m    api.ChannelMap
		list []int
	}{
		{33, []int{0, 5}}, {0, nil}, {1, []int{0}}, {7, []int{0, 1, 2}}, {1 << 36, []int{36}}, {1<<36 | 1<<10 | 2, []int{1, 10, 36}},
		{1 << 37, nil}, {^api.AllChannels, nil}, {33 | 1<<37 | 1<<63, []int{0, 5}}, {1<<36 | 1<<38, []int{36}},
	} {
		if got := chanmap.List(c.m); !slices.Equal(got, c.list) {
			t.Errorf("List(%x) = %v, want %v", uint64(c.m), got, c.list)
		}
		if got := chanmap.Count(c.m); got != len(c.list) {
			t.Errorf("Count(%x) = %d, want %d", uint64(c.m), got, len(c.list))
		}
		for i, channel := range c.list {
			if got := chanmap.Nth(c.m, i); got != channel || !chanmap.Has(c.m, channel) {
				t.Errorf("Nth(%x, %d) = %d, want %d", uint64(c.m), i, got, channel)
			}
		}
		for _, i := range []int{math.MinInt, -2, -1, len(c.list), len(c.list) + 1, 36, 37, math.MaxInt} {
			if got := chanmap.Nth(c.m, i); got != -1 {
				t.Errorf("Nth(%x, %d) = %d, want -1", uint64(c.m), i, got)
			}
		}
	}
}

func TestP12_2HasExamples(t *testing.T) {
	for _, c := range []struct {
		m       api.ChannelMap
		channel int
		want    bool
	}{
		{33, 0, true}, {33, 5, true}, {33, 1, false}, {33, 4, false}, {33, 6, false}, {33, -1, false}, {33, 37, false}, {33, 64, false}, {33, 69, false}, {33, math.MinInt, false}, {33, math.MaxInt, false},
		{math.MaxUint64, 36, true}, {math.MaxUint64, 37, false}, {math.MaxUint64, 39, false}, {math.MaxUint64, 63, false}, {math.MaxUint64, 64, false}, {math.MaxUint64, -1, false}, {1 << 37, 37, false}, {0, 0, false},
	} {
		if got := chanmap.Has(c.m, c.channel); got != c.want {
			t.Errorf("Has(%x, %d) = %t", uint64(c.m), c.channel, got)
		}
	}
}

func TestP12_2FollowsTheDefinition(t *testing.T) {
	for _, m := range someMaps() {
		want := list(m)
		if got := chanmap.List(m); !slices.Equal(got, want) {
			t.Fatalf("List(%x) = %v, want %v", uint64(m), got, want)
		}
		if got := chanmap.Count(m); got != len(want) {
			t.Fatalf("Count(%x) = %d, want %d", uint64(m), got, len(want))
		}
		for _, n := range allNumbers() {
			if got := chanmap.Has(m, n); got != slices.Contains(want, n) {
				t.Fatalf("Has(%x, %d) = %t", uint64(m), n, got)
			}
			if got := chanmap.Nth(m, n); got != nth(want, n) {
				t.Fatalf("Nth(%x, %d) = %d, want %d", uint64(m), n, got, nth(want, n))
			}
		}
	}
}

func TestP12_2ListReturnsNewMemory(t *testing.T) {
	first := chanmap.List(33)
	clear(first[:cap(first)])
	if second := chanmap.List(33); !slices.Equal(second, []int{0, 5}) {
		t.Errorf("the list became %v", second)
	}
}

func TestP12_3RemapExamples(t *testing.T) {
	for _, c := range []struct {
		m             api.ChannelMap
		channel, want int
	}{
		{33, 7, 5}, {33, 0, 0}, {33, 5, 5}, {33, 1, 5}, {33, 2, 0}, {33, 36, 0}, {33, 35, 5}, {0, 3, -1}, {0, 0, -1}, {1 << 4, 0, 4}, {1 << 4, 36, 4}, {1 << 4, 4, 4},
		{7, 3, 0}, {7, 4, 1}, {7, 5, 2}, {7 << 20, 0, 20}, {7 << 20, 23, 22}, {7 << 20, 19, 21}, {7 << 20, 21, 21}, {api.AllChannels, 17, 17}, {api.AllChannels &^ 1, 0, 1}, {api.AllChannels &^ (1 << 36), 36, 0}, {even, 1, 2}, {even, 35, 32}, {odd, 36, 1},
		{33, -1, 0}, {34, -1, 1}, {34, -7, 1}, {34, math.MinInt, 1}, {33, 37, 0}, {34, 37, 1}, {34, 39, 1}, {1<<36 | 3, 37, 36}, {1<<36 | 3, math.MaxInt, 36}, {7, 37, 0}, {7, 38, 0}, {7, math.MaxInt, 0}, {0, -1, -1}, {0, 37, -1},
		{33 | 1<<37, 7, 5}, {33 | 1<<63, 7, 5}, {33 | 1<<37, 37, 0}, {1 << 37, 0, -1}, {1 << 37, 37, -1}, {^api.AllChannels, 36, -1}, {math.MaxUint64, 37, 36},
	} {
		if got := chanmap.Remap(c.m, c.channel); got != c.want {
			t.Errorf("Remap(%x, %d) = %d, want %d", uint64(c.m), c.channel, got, c.want)
		}
	}
}

func TestP12_3RemapFollowsTheDefinition(t *testing.T) {
	for _, m := range someMaps() {
		channels := list(m)
		for _, n := range allNumbers() {
			if got, want := chanmap.Remap(m, n), remap(channels, n); got != want {
				t.Fatalf("Remap(%x, %d) = %d, want %d", uint64(m), n, got, want)
			}
		}
	}
}

func TestP12_4FrequencyExamples(t *testing.T) {
	for _, c := range []struct{ channel, want int }{
		{0, 2404}, {1, 2406}, {9, 2422}, {10, 2424}, {11, 2428}, {12, 2430}, {35, 2476}, {36, 2478}, {37, 2402}, {38, 2426}, {39, 2480},
		{40, 0}, {41, 0}, {-1, 0}, {-2, 0}, {64, 0}, {256, 0}, {1 << 32, 0}, {math.MaxInt, 0}, {math.MinInt, 0}, {math.MinInt + 10, 0},
	} {
		if got := chanmap.Frequency(c.channel); got != c.want {
			t.Errorf("Frequency(%d) = %d, want %d", c.channel, got, c.want)
		}
	}
}

func TestP12_4FrequencyFollowsTheDefinition(t *testing.T) {
	want := map[int]int{37: 2402, 38: 2426, 39: 2480}
	for channel := 0; channel <= 10; channel++ {
		want[channel] = 2404 + 2*channel
	}
	for channel := 11; channel <= 36; channel++ {
		want[channel] = 2406 + 2*channel
	}
	for channel := -1000; channel <= 1000; channel++ {
		if got := chanmap.Frequency(channel); got != want[channel] {
			t.Errorf("Frequency(%d) = %d, want %d", channel, got, want[channel])
		}
	}
}

func TestP12_5EncodeExamples(t *testing.T) {
	for _, c := range []struct {
		m    api.ChannelMap
		want []byte
		e    api.Errno
	}{
		{33, []byte{0x21, 0, 0, 0, 0}, api.OK}, {api.AllChannels, []byte{255, 255, 255, 255, 0x1f}, api.OK}, {1<<36 | 1<<25 | 1<<18 | 1<<8, []byte{0, 1, 4, 2, 0x10}, api.OK}, {even, []byte{0x55, 0x55, 0x55, 0x55, 0x15}, api.OK},
		{1, nil, api.ErrInvalid}, {0, nil, api.ErrInvalid}, {1 << 36, nil, api.ErrInvalid}, {1 << 37, nil, api.ErrRange}, {33 | 1<<37, nil, api.ErrRange}, {33 | 1<<40, nil, api.ErrRange}, {33 | 1<<63, nil, api.ErrRange}, {math.MaxUint64, nil, api.ErrRange},
	} {
		if got, e := chanmap.Encode(c.m); e != c.e || !bytes.Equal(got, c.want) {
			t.Errorf("Encode(%x) = %x, %v", uint64(c.m), got, e)
		}
	}
}

func TestP12_5EncodeFollowsTheDefinition(t *testing.T) {
	for _, m := range someMaps() {
		var want []byte
		if check(m) == api.OK {
			want = encoded(uint64(m))
		}
		if got, e := chanmap.Encode(m); e != check(m) || !bytes.Equal(got, want) {
			t.Fatalf("Encode(%x) = %x, %v", uint64(m), got, e)
		}
	}
}

func TestP12_5DecodeExamples(t *testing.T) {
	for _, c := range []struct {
		b    []byte
		want api.ChannelMap
		e    api.Errno
	}{
		{[]byte{0x21, 0, 0, 0, 0}, 33, api.OK}, {[]byte{255, 255, 255, 255, 0x1f}, api.AllChannels, api.OK}, {[]byte{0, 1, 4, 2, 0x10}, 1<<36 | 1<<25 | 1<<18 | 1<<8, api.OK},
		{nil, 0, api.ErrTruncated}, {[]byte{}, 0, api.ErrTruncated}, {[]byte{0x21}, 0, api.ErrTruncated}, {[]byte{0x21, 0, 0, 0}, 0, api.ErrTruncated}, {[]byte{255, 255, 255, 255}, 0, api.ErrTruncated},
		{[]byte{0x21, 0, 0, 0, 0, 0}, 0, api.ErrSyntax}, {[]byte{0, 0, 0, 0, 0, 0}, 0, api.ErrSyntax}, {[]byte{255, 255, 255, 255, 255, 255}, 0, api.ErrSyntax}, {make([]byte, 64), 0, api.ErrSyntax},
		{[]byte{255, 255, 255, 255, 255}, 0, api.ErrRange}, {[]byte{0x21, 0, 0, 0, 0x20}, 0, api.ErrRange}, {[]byte{0, 0, 0, 0, 0x80}, 0, api.ErrRange}, {[]byte{0, 0, 0, 0, 0x30}, 0, api.ErrRange},
		{[]byte{0, 0, 0, 0, 0}, 0, api.ErrInvalid}, {[]byte{1, 0, 0, 0, 0}, 0, api.ErrInvalid}, {[]byte{0, 0, 0, 0, 0x10}, 0, api.ErrInvalid},
	} {
		before := slices.Clone(c.b)
		if got, e := chanmap.Decode(c.b); e != c.e || got != c.want {
			t.Errorf("Decode(%x) = %x, %v, want %x, %v", c.b, uint64(got), e, uint64(c.want), c.e)
		}
		if !bytes.Equal(c.b, before) {
			t.Errorf("the argument became %x", c.b)
		}
	}
}

func TestP12_5DecodeFollowsTheDefinition(t *testing.T) {
	for _, m := range someMaps() {
		n := uint64(m) % (1 << 40)
		whole := append(encoded(n), 7, 0)
		for size := range whole {
			want, wanted := api.ChannelMap(0), check(api.ChannelMap(n))
			switch {
			case size < 5:
				wanted = api.ErrTruncated
			case size > 5:
				wanted = api.ErrSyntax
			case wanted == api.OK:
				want = api.ChannelMap(n)
			}
			if got, e := chanmap.Decode(whole[:size]); e != wanted || got != want {
				t.Fatalf("Decode(%x) = %x, %v, want %x, %v", whole[:size], uint64(got), e, uint64(want), wanted)
			}
		}
	}
}

func TestP12_6TextExamples(t *testing.T) {
	for _, c := range []struct {
		m    api.ChannelMap
		want string
	}{
		{33, "0,5"}, {7, "0-2"}, {api.AllChannels, "0-36"}, {0, ""}, {3, "0-1"}, {1, "0"}, {1 << 36, "36"}, {3 << 35, "35-36"}, {1 << 10, "10"}, {1 | 7<<9 | 1<<36, "0,9-11,36"}, {api.AllChannels &^ 1, "1-36"}, {api.AllChannels &^ (1 << 36), "0-35"}, {api.AllChannels &^ (1 << 20), "0-19,21-36"},
		{even, "0,2,4,6,8,10,12,14,16,18,20,22,24,26,28,30,32,34,36"}, {odd, "1,3,5,7,9,11,13,15,17,19,21,23,25,27,29,31,33,35"}, {1<<37 - 1 - 0x0924924924, "0-1,3-4,6-7,9-10,12-13,15-16,18-19,21-22,24-25,27-28,30-31,33-34,36"},
		{1 << 37, ""}, {33 | 1<<37, "0,5"}, {3<<36 | 1, "0,36"}, {math.MaxUint64, "0-36"}, {33 | 1<<63, "0,5"},
	} {
		if got := chanmap.Text(c.m); got != c.want {
			t.Errorf("Text(%x) = %q, want %q", uint64(c.m), got, c.want)
		}
	}
}

func TestP12_6TextFollowsTheDefinition(t *testing.T) {
	for _, m := range someMaps() {
		if got, want := chanmap.Text(m), text(m); got != want {
			t.Fatalf("Text(%x) = %q, want %q", uint64(m), got, want)
		}
	}
}

func TestP12_6ParseExamples(t *testing.T) {
	for _, c := range []struct {
		s    string
		want api.ChannelMap
	}{
		{"0-1", 3}, {"0,5", 33}, {"0-2", 7}, {"0-36", api.AllChannels}, {"0,36", 1 | 1<<36}, {"35-36", 3 << 35}, {"0,9-11,36", 1 | 7<<9 | 1<<36}, {"0-19,21-36", api.AllChannels &^ (1 << 20)}, {"0,2,4,6,8,10,12,14,16,18,20,22,24,26,28,30,32,34,36", even},
	} {
		if got, e := chanmap.Parse(c.s); e != api.OK || got != c.want {
			t.Errorf("Parse(%q) = %x, %v, want %x", c.s, uint64(got), e, uint64(c.want))
		}
	}
}

func TestP12_6ParseRejectsOtherTexts(t *testing.T) {
	for _, s := range []string{
		"", "0", "5", "36", "37", "36-37", "0,37", "37-38", "0-37", "0-63", "0-64", "0,64", "0,65", "99", "0,99", "0,5,100", "0,4294967301", "0,18446744073709551621", "0,99999999999999999999999999",
		"0,1", "5,0", "0-1,2", "0,1-2", "0-1,2-3", "0,5,6", "0-5,3-7", "0-5,3", "0-5,0-5", "0,0", "0,5,5", "0,5,0", "0-1,0", "5-5", "0-0", "0,5-5", "1-0", "5-0", "0,7-3", "36-0",
		",", "0,", ",0", "0,5,", ",0,5", "0,,5", "-", "0-", "-1", "-0", "--", "0--1", "0-1-", "-0-1", "0-1-2", "0-5,-7", "0,-5", "0,5-", "0;5", "0.5", "0:5", "0_1,5", "0–5",
		"00,5", "0,05", "00-1", "0-01", "+0,5", "0,+5", "0-+5", "-0,5", "0x0,0x5", "0,1e1", "0,٥", "a", "0,a", "0-b", "all", "0 ,5", "0, 5", " 0,5", "0,5 ", "0,5\n", "\t0,5", "0 - 5", "0,5\x00", "\xff", "0,\xff5",
		strings.Repeat("0,5,", 1000) + "7", strings.Repeat(",", 5000), strings.Repeat("0", 5000) + ",5", "0," + strings.Repeat("9", 5000),
	} {
		if got, e := chanmap.Parse(s); e != api.ErrSyntax || got != 0 {
			t.Errorf("Parse(%.40q) = %x, %v", s, uint64(got), e)
		}
	}
}

func TestP12_6ParseFollowsTheDefinition(t *testing.T) {
	const alphabet = "0123456789,- +a\x00\xff"
	accepted := 0
	for _, start := range []string{"0,5", "0-2", "0-36", "3,7-9,20-36", "10,12", "0-1,3-4,36", "5"} {
		for at := range len(start) + 1 {
			for _, c := range []byte(alphabet) {
				texts := []string{start[:at] + string([]byte{c}) + start[at:]}
				if at < len(start) {
					texts = append(texts, start[:at]+string([]byte{c})+start[at+1:], start[:at]+start[at+1:])
				}
				for _, s := range texts {
					accepted += checkParse(t, s)
				}
			}
		}
	}
	if accepted < 200 {
		t.Errorf("only %d texts were those of valid maps", accepted)
	}
}

func TestP12_6ParseOfRandomTexts(t *testing.T) {
	random := rand.New(rand.NewSource(1))
	accepted := 0
	for range 100000 {
		var parts []string
		from := 0
		for range 1 + random.Intn(4) {
			first := from + random.Intn(12)
			from = first + random.Intn(3)
			part := strconv.Itoa(first)
			if random.Intn(2) == 0 {
				part += "-" + strconv.Itoa(from)
			}
			parts = append(parts, part)
			from += random.Intn(3)
		}
		accepted += checkParse(t, strings.Join(parts, ","))
	}
	if accepted < 10000 {
		t.Errorf("only %d texts were those of valid maps", accepted)
	}
}

// checkParse compares Parse with the definition and returns how many maps it returned.
func checkParse(t *testing.T, s string) int {
	t.Helper()
	want, ok := parse(s)
	got, e := chanmap.Parse(s)
	if got != want || ok != (e == api.OK) || !ok && e != api.ErrSyntax {
		t.Fatalf("Parse(%q) = %x, %v, want %x, %t", s, uint64(got), e, uint64(want), ok)
	}
	if ok {
		return 1
	}
	return 0
}

func TestP12_7List(t *testing.T) {
	for _, m := range someMaps() {
		got := chanmap.List(m)
		for i := 1; i < len(got); i++ {
			if got[i] <= got[i-1] {
				t.Fatalf("List(%x) = %v", uint64(m), got)
			}
		}
		for _, n := range allNumbers() {
			if chanmap.Has(m, n) != slices.Contains(got, n) {
				t.Fatalf("List(%x) = %v, but Has is %t for %d", uint64(m), got, chanmap.Has(m, n), n)
			}
		}
	}
}

func TestP12_7Remap(t *testing.T) {
	for _, m := range someMaps() {
		for _, n := range allNumbers() {
			got := chanmap.Remap(m, n)
			if chanmap.Count(m) > 0 && !chanmap.Has(m, got) || chanmap.Has(m, n) && got != n {
				t.Fatalf("Remap(%x, %d) = %d", uint64(m), n, got)
			}
		}
	}
}

func TestP12_8DecodeInvertsEncode(t *testing.T) {
	for _, m := range someMaps() {
		if check(m) != api.OK {
			continue
		}
		b, e := chanmap.Encode(m)
		if got, e2 := chanmap.Decode(b); e != api.OK || e2 != api.OK || got != m {
			t.Fatalf("Decode(%x) = %x, %v, want %x", b, uint64(got), e2, uint64(m))
		}
	}
}

func TestP12_8EncodeInvertsDecode(t *testing.T) {
	random := rand.New(rand.NewSource(2))
	for range 100000 {
		b := make([]byte, 5)
		random.Read(b)
		b[4] &= byte(random.Intn(256))
		m, e := chanmap.Decode(b)
		if e != api.OK {
			continue
		}
		if got, e := chanmap.Encode(m); e != api.OK || !bytes.Equal(got, b) {
			t.Fatalf("Encode(%x) = %x, %v, want %x", uint64(m), got, e, b)
		}
	}
}

func TestP12_8ParseInvertsText(t *testing.T) {
	for _, m := range someMaps() {
		s := chanmap.Text(m)
		got, e := chanmap.Parse(s)
		// Bits above 36 do not stand in the text, so that it can be that of another, valid map.
		if m &= api.AllChannels; check(m) == api.OK && (e != api.OK || got != m) || check(m) != api.OK && (e != api.ErrSyntax || got != 0) {
			t.Fatalf("Parse(%q) = %x, %v", s, uint64(got), e)
		}
	}
}

func TestP12_9Frequencies(t *testing.T) {
	var got, want []int
	for channel := range api.Channels {
		got = append(got, chanmap.Frequency(channel))
		want = append(want, 2402+2*channel)
	}
	slices.Sort(got)
	if !slices.Equal(got, want) {
		t.Errorf("the frequencies are %v", got)
	}
}

// someMaps returns maps around which mistakes are likely, valid ones and others, and random ones.
func someMaps() []api.ChannelMap {
	maps := []api.ChannelMap{0, 1, 2, 3, 5, 6, 7, 33, even, odd, api.AllChannels, ^api.AllChannels, math.MaxUint64, 1 << 63, 3 << 62}
	for i := range 64 {
		maps = append(maps, 1<<i, api.AllChannels&^(1<<i), api.AllChannels|1<<i, 1|1<<i, 3<<i, 1<<i-1, 33|1<<i)
		for j := range i {
			maps = append(maps, 1<<i|1<<j, 1<<i-1<<j)
		}
	}
	random := rand.New(rand.NewSource(3))
	for range 2000 {
		m := random.Uint64()
		maps = append(maps, api.ChannelMap(m), api.ChannelMap(m)&api.AllChannels, api.ChannelMap(m&random.Uint64())&api.AllChannels, api.ChannelMap(m|random.Uint64())&api.AllChannels, api.ChannelMap(m&random.Uint64()&random.Uint64()))
	}
	return maps
}

// allNumbers returns the channels, what is near them, and the numbers at the edges.
func allNumbers() []int {
	all := slices.Clone(numbers)
	for n := -70; n <= 70; n++ {
		all = append(all, n)
	}
	return all
}

// picture shows a map as 64 digits; that of the channel i has the index i.
func picture(m api.ChannelMap) string {
	digits := []byte(fmt.Sprintf("%064b", uint64(m)))
	slices.Reverse(digits)
	return string(digits)
}

func check(m api.ChannelMap) api.Errno {
	switch bits := picture(m); {
	case strings.Contains(bits[37:], "1"):
		return api.ErrRange
	case strings.Count(bits[:37], "1") < 2:
		return api.ErrInvalid
	}
	return api.OK
}

func list(m api.ChannelMap) []int {
	var channels []int
	for channel, bit := range picture(m)[:37] {
		if bit == '1' {
			channels = append(channels, channel)
		}
	}
	return channels
}

func nth(channels []int, i int) int {
	if i < 0 || i >= len(channels) {
		return -1
	}
	return channels[i]
}

func remap(channels []int, channel int) int {
	if channel < 0 {
		channel = 0
	}
	if channel > 36 {
		channel = 36
	}
	switch {
	case len(channels) == 0:
		return -1
	case slices.Contains(channels, channel):
		return channel
	}
	return channels[channel%len(channels)]
}

func encoded(n uint64) []byte {
	return []byte{byte(n), byte(n >> 8), byte(n >> 16), byte(n >> 24), byte(n >> 32)}
}

var run = regexp.MustCompile("1+")

// text finds the ranges in the picture of a map.
func text(m api.ChannelMap) string {
	var parts []string
	for _, at := range run.FindAllStringIndex(picture(m)[:37], -1) {
		if first, last := at[0], at[1]-1; first == last {
			parts = append(parts, fmt.Sprint(first))
		} else {
			parts = append(parts, fmt.Sprintf("%d-%d", first, last))
		}
	}
	return strings.Join(parts, ",")
}

var form = regexp.MustCompile(`\A(0|[1-9][0-9]*)(-(0|[1-9][0-9]*))?(,(0|[1-9][0-9]*)(-(0|[1-9][0-9]*))?)*\z`)

// parse accepts ranges that ascend and do not touch one another, with two channels at least.
func parse(s string) (api.ChannelMap, bool) {
	if !form.MatchString(s) {
		return 0, false
	}
	m, count, end := api.ChannelMap(0), 0, -2
	for _, part := range strings.Split(s, ",") {
		bounds := strings.Split(part, "-")
		first, e := strconv.Atoi(bounds[0])
		last, e2 := strconv.Atoi(bounds[len(bounds)-1])
		if e != nil || e2 != nil || first <= end+1 || last > 36 || len(bounds) == 2 && first >= last {
			return 0, false
		}
		for channel := first; channel <= last; channel++ {
			m += api.ChannelMap(math.Pow(2, float64(channel)))
			count++
		}
		end = last
	}
	if count < 2 {
		return 0, false
	}
	return m, true
}
