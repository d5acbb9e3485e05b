package capture_test

import (
	"bytes"
	"encoding/hex"
	"fmt"
	"math"
	"math/rand"
	"slices"
	"sort"
	"strings"
	"testing"

	"wireless/air"
	"wireless/api"
	"wireless/capture"
)

// numbers are numbers around which mistakes are likely.
var numbers = []int{math.MinInt, math.MinInt + 1, -2, -1, 0, 1, 2, 3, 4, 5, 7, 8, 36, 39, 40, 255, 256, 65536, api.MaxTime - 1, api.MaxTime, api.MaxTime + 1, math.MaxInt - 1, math.MaxInt}

// three are records of different sizes, whose file is known.
var three = []api.Record{
	{Time: 7, Channel: 37, From: 0, Kind: 1, Bytes: []byte{0x0a, 0xff}},
	{Time: 7, Channel: 5, From: 3, Kind: 0},
	{Time: 0x123456789a, Channel: 39, From: 7, Kind: 4, Bytes: []byte("wireless")},
}

// threeFile was computed apart from the program.
const threeFile = "41495231" + "0700000000000000" + "250001" + "0200" + "0aff" + "113d97" + "0700000000000000" + "050300" + "0000" + "3758ef" + "9a78563412000000" + "270704" + "0800" + "776972656c657373" + "c9b87d"

func TestP16_1MakeExamples(t *testing.T) {
	sent := []api.Transmission{{ID: -3, From: 2, Channel: 5, Start: 900, Bytes: []byte{1, 2}}, {ID: 4, From: 1, Channel: 37, Start: 100}, {ID: 6, From: 0, Channel: 39, Start: 900, Bytes: []byte{3}}, {ID: 7, From: 7, Channel: 0, Start: 100, Bytes: []byte{4, 5, 6}}}
	rx := func(id, kind int) api.Reception {
		return api.Reception{ID: id, Kind: kind, To: 1, Start: 5, End: 6, Bytes: []byte{9}}
	}
	for _, c := range []struct {
		comment string
		got     []api.Reception
		kinds   [4]int // of the transmissions in order
	}{
		{"no receptions", nil, [4]int{}},
		{"the chapter's example", []api.Reception{rx(4, api.RxLost), rx(4, api.RxGood)}, [4]int{0, 1, 0, 0}},
		{"good at first", []api.Reception{rx(4, api.RxGood), rx(4, api.RxLost)}, [4]int{0, 1, 0, 0}},
		{"good in between", []api.Reception{rx(4, api.RxJammed), rx(6, api.RxJammed), rx(4, api.RxGood), rx(4, api.RxLost)}, [4]int{0, 1, 3, 0}},
		{"the first of three", []api.Reception{rx(7, api.RxJammed), rx(7, api.RxLost), rx(7, api.RxCollided)}, [4]int{0, 0, 0, 3}},
		{"the first of three, otherwise", []api.Reception{rx(7, api.RxCollided), rx(7, api.RxJammed), rx(7, api.RxLost)}, [4]int{0, 0, 0, 4}},
		{"of others", []api.Reception{rx(0, api.RxGood), rx(5, api.RxGood), rx(-4, api.RxLost)}, [4]int{}},
		{"of all", []api.Reception{rx(-3, api.RxLost), rx(4, api.RxJammed), rx(6, api.RxCollided), rx(7, api.RxGood)}, [4]int{2, 3, 4, 1}},
	} {
		want := []api.Record{{Time: 100, Channel: 37, From: 1, Kind: c.kinds[1]}, {Time: 100, Channel: 0, From: 7, Kind: c.kinds[3], Bytes: []byte{4, 5, 6}}, {Time: 900, Channel: 5, From: 2, Kind: c.kinds[0], Bytes: []byte{1, 2}}, {Time: 900, Channel: 39, From: 0, Kind: c.kinds[2], Bytes: []byte{3}}}
		if got := capture.Make(sent, c.got); !slices.EqualFunc(got, want, equal) {
			t.Errorf("Make with %s = %v, want %v", c.comment, got, want)
		}
	}
	if got := capture.Make(nil, []api.Reception{rx(1, 1)}); len(got) != 0 {
		t.Errorf("Make without transmissions = %v", got)
	}
}

func TestP16_1MakeFollowsTheDefinition(t *testing.T) {
	random := rand.New(rand.NewSource(1))
	for range 2000 {
		sent, got := someAir(random)
		want := make([]api.Record, len(sent))
		for i, x := range sent {
			place := 0
			for j, y := range sent {
				if y.Start < x.Start || y.Start == x.Start && j < i {
					place++
				}
			}
			kind := 0
			for j := len(got) - 1; j >= 0; j-- {
				if got[j].ID == x.ID {
					kind = got[j].Kind
				}
			}
			if slices.ContainsFunc(got, func(r api.Reception) bool { return r.ID == x.ID && r.Kind == 1 }) {
				kind = 1
			}
			want[place] = api.Record{Time: x.Start, Channel: x.Channel, From: x.From, Kind: kind, Bytes: x.Bytes}
		}
		if made := capture.Make(sent, got); !slices.EqualFunc(made, want, equal) {
			t.Fatalf("Make(%v, %v) = %v, want %v", sent, got, made, want)
		}
	}
}

func TestP16_2WriteExamples(t *testing.T) {
	for _, c := range []struct {
		l    []api.Record
		want string
	}{
		{nil, "41495231"}, {[]api.Record{}, "41495231"}, {three, threeFile},
		{[]api.Record{{}}, "41495231" + "0000000000000000" + "000000" + "0000" + "000000"},
		{[]api.Record{{Time: api.MaxTime, Channel: 39, From: 7, Kind: 4, Bytes: make([]byte, 260)}}, "41495231" + "0000000000010000" + "270704" + "0401" + strings.Repeat("00", 260) + "d5652d"},
	} {
		got, e := capture.Write(c.l)
		if e != api.OK || hex.EncodeToString(got) != c.want {
			t.Errorf("Write(%v) = %x, %d, want %s", c.l, got, e, c.want)
		}
	}
	for n := range 261 {
		if got, e := capture.Write([]api.Record{{Bytes: make([]byte, n)}}); e != api.OK || len(got) != 20+n {
			t.Errorf("the file of a record of %d bytes has %d bytes, %d", n, len(got), e)
		}
	}
}

func TestP16_2WriteRejects(t *testing.T) {
	long := make([]byte, 261)
	for _, c := range []struct {
		comment string
		r       api.Record
		want    api.Errno
	}{
		{"the same time", api.Record{Time: 50}, api.OK}, {"an earlier time", api.Record{Time: 49}, api.ErrOrder}, {"the earliest time", api.Record{}, api.ErrOrder}, {"the latest time", api.Record{Time: api.MaxTime}, api.OK}, {"a later time", api.Record{Time: api.MaxTime + 1}, api.ErrRange}, {"a negative time", api.Record{Time: -1}, api.ErrRange}, {"the least time", api.Record{Time: math.MinInt}, api.ErrRange}, {"the greatest time", api.Record{Time: math.MaxInt}, api.ErrRange},
		{"channel 39", api.Record{Time: 50, Channel: 39}, api.OK}, {"channel 40", api.Record{Time: 50, Channel: 40}, api.ErrRange}, {"channel -1", api.Record{Time: 50, Channel: -1}, api.ErrRange}, {"channel 256", api.Record{Time: 50, Channel: 256}, api.ErrRange},
		{"from 7", api.Record{Time: 50, From: 7}, api.OK}, {"from 8", api.Record{Time: 50, From: 8}, api.ErrRange}, {"from -1", api.Record{Time: 50, From: -1}, api.ErrRange}, {"from 256", api.Record{Time: 50, From: 256}, api.ErrRange},
		{"kind 4", api.Record{Time: 50, Kind: 4}, api.OK}, {"kind 5", api.Record{Time: 50, Kind: 5}, api.ErrRange}, {"kind -1", api.Record{Time: 50, Kind: -1}, api.ErrRange}, {"kind 256", api.Record{Time: 50, Kind: 256}, api.ErrRange},
		{"260 bytes", api.Record{Time: 50, Bytes: long[:260]}, api.OK}, {"261 bytes", api.Record{Time: 50, Bytes: long}, api.ErrTooLong}, {"range before length", api.Record{Time: 50, Kind: 5, Bytes: long}, api.ErrRange}, {"range before order", api.Record{Time: 49, From: 8}, api.ErrRange}, {"length before order", api.Record{Time: 49, Bytes: long}, api.ErrTooLong},
	} {
		for _, after := range []api.Record{{Time: api.MaxTime}, {Time: -1}, {Time: api.MaxTime, Bytes: long}, {}} {
			l := []api.Record{{Time: 1}, {Time: 50}, c.r, after}
			if got, e := capture.Write(l[:3]); e != c.want || (e != api.OK) != (len(got) == 0) {
				t.Errorf("Write of %s = %x, %d, want %d", c.comment, got, e, c.want)
			}
			if got, e := capture.Write(l); c.want != api.OK && e != c.want || e != api.OK && len(got) > 0 {
				t.Errorf("Write of %s before another record = %x, %d, want %d", c.comment, got, e, c.want)
			}
		}
		if _, e := capture.Write([]api.Record{c.r}); c.want == api.ErrOrder && e != api.OK || c.want != api.ErrOrder && c.comment != "length before order" && c.comment != "range before order" && e != c.want {
			t.Errorf("Write of %s alone = %d", c.comment, e)
		}
	}
	if got, e := capture.Write([]api.Record{{Time: 3}, {Time: 5}, {Time: 4}}); e != api.ErrOrder || len(got) > 0 {
		t.Errorf("Write of a time that is less than the preceding one only = %x, %d", got, e)
	}
	if got, e := capture.Write([]api.Record{{Time: 3}, {Time: 2}, {Time: -1}}); e != api.ErrOrder || len(got) > 0 {
		t.Errorf("Write of two wrong records = %x, %d", got, e)
	}
}

func TestP16_3ReadExamples(t *testing.T) {
	one := "41495231" + "0700000000000000" + "250001" + "0200" + "0aff" + "113d97"
	for _, c := range []struct {
		comment, file string
		records, n    int
		want          api.Errno
	}{
		{"nothing", "", 0, 0, api.ErrTruncated}, {"three bytes", "414952", 0, 0, api.ErrTruncated}, {"three wrong bytes", "000000", 0, 0, api.ErrTruncated}, {"a wrong signature", "41495232", 0, 0, api.ErrSyntax}, {"a wrong beginning", "61495231", 0, 0, api.ErrSyntax}, {"a wrong signature and more", "4149523007", 0, 0, api.ErrSyntax}, {"no records", "41495231", 0, 4, api.OK},
		{"three records", threeFile, 3, 62, api.OK}, {"one record", one, 1, 22, api.OK}, {"one record without its last byte", one[:len(one)-2], 0, 4, api.ErrTruncated}, {"one record and a byte", one + "00", 1, 22, api.ErrTruncated}, {"one record and 12 bytes", one + strings.Repeat("ff", 12), 1, 22, api.ErrTruncated}, {"one record and 13 wrong bytes", one + strings.Repeat("ff", 13), 1, 22, api.ErrTooLong},
		{"261 bytes and no more", one + "0700000000000000" + "250001" + "0501", 1, 22, api.ErrTooLong}, {"260 bytes and no more", one + "0700000000000000" + "250001" + "0401", 1, 22, api.ErrTruncated}, {"256 bytes and no more", "41495231" + "0700000000000000" + "250001" + "0001", 0, 4, api.ErrTruncated},
		{"13 bytes without a checksum", one + "0700000000000000" + "250001" + "0000", 1, 22, api.ErrTruncated}, {"two bytes of a checksum", one + "0000000000000000" + "000000" + "0000" + "0000", 1, 22, api.ErrTruncated}, {"a wrong checksum", one + "0000000000000000" + "000000" + "0000" + "000001", 1, 22, api.ErrChecksum}, {"a wrong checksum of a wrong record", one + "0000000000000000" + "ffffff" + "0000" + "000001", 1, 22, api.ErrChecksum}, {"an earlier record", one + "0000000000000000" + "000000" + "0000" + "000000", 1, 22, api.ErrOrder},
	} {
		l, n, e := capture.Read(bytesOf(t, c.file))
		if len(l) != c.records || n != c.n || e != c.want {
			t.Errorf("Read of %s = %v, %d, %d, want %d records, %d, %d", c.comment, l, n, e, c.records, c.n, c.want)
		}
		if !slices.EqualFunc(l, three[:len(l)], equal) {
			t.Errorf("Read of %s = %v", c.comment, l)
		}
	}
}

func TestP16_3ReadRejectsWhatIsNotValid(t *testing.T) {
	for _, c := range []struct {
		comment             string
		time                uint64
		channel, from, kind byte
		size                int
		want                api.Errno
	}{
		{"the greatest numbers", api.MaxTime, 39, 7, 4, 260, api.OK}, {"the same time", 1000, 0, 0, 0, 0, api.OK}, {"an earlier time", 999, 0, 0, 0, 0, api.ErrOrder}, {"a late time", api.MaxTime + 1, 0, 0, 0, 0, api.ErrRange}, {"a negative time", 1 << 63, 0, 0, 0, 0, api.ErrRange}, {"the latest time", math.MaxUint64, 0, 0, 0, 0, api.ErrRange}, {"the latest positive time", math.MaxInt64, 0, 0, 0, 5, api.ErrRange},
		{"channel 40", 1000, 40, 0, 0, 0, api.ErrRange}, {"channel 255", 1000, 255, 0, 0, 0, api.ErrRange}, {"from 8", 1000, 0, 8, 0, 0, api.ErrRange}, {"from 255", 1000, 0, 255, 0, 0, api.ErrRange}, {"kind 5", 1000, 0, 0, 5, 0, api.ErrRange}, {"kind 255", 1000, 0, 0, 255, 0, api.ErrRange}, {"range before order", 999, 40, 0, 0, 0, api.ErrRange}, {"from before order", 0, 0, 8, 0, 0, api.ErrRange}, {"kind before order", 0, 0, 0, 5, 0, api.ErrRange}, {"261 bytes", 1000, 0, 0, 0, 261, api.ErrTooLong}, {"261 bytes of a wrong record", 0, 40, 8, 5, 261, api.ErrTooLong}, {"65535 bytes", 1000, 0, 0, 0, 65535, api.ErrTooLong},
	} {
		file := record([]byte("AIR1"), 1000, 1, 2, 3, []byte{4, 5})
		first := len(file)
		file = record(file, c.time, c.channel, c.from, c.kind, bytes.Repeat([]byte{9}, c.size))
		second := len(file)
		file = record(file, api.MaxTime, 1, 1, 1, nil)
		l, n, e := capture.Read(file)
		if e != c.want {
			t.Errorf("Read of %s = %d, want %d", c.comment, e, c.want)
		}
		if c.want != api.OK && (len(l) != 1 || n != first) || c.want == api.OK && (len(l) != 3 || n != len(file)) {
			t.Errorf("Read of %s = %v, %d", c.comment, l, n)
		}
		file[second-1] ^= 1
		if _, n, e := capture.Read(file); n != first || c.want != api.ErrTooLong && e != api.ErrChecksum || c.want == api.ErrTooLong && e != api.ErrTooLong {
			t.Errorf("Read of %s with a wrong checksum = %d, %d", c.comment, n, e)
		}
	}
}

func TestP16_3ReadReturnsNewMemory(t *testing.T) {
	file := append(bytesOf(t, threeFile), 1, 2, 3, 4)
	before := slices.Clone(file)
	for range 2 {
		l, n, e := capture.Read(file[:62])
		if !slices.EqualFunc(l, three, equal) || n != 62 || e != api.OK {
			t.Fatalf("Read = %v, %d, %d", l, n, e)
		}
		for i, r := range l {
			overwrite(r.Bytes)
			if i+1 < len(l) && !equal(l[i+1], three[i+1]) {
				t.Errorf("the records share memory")
			}
		}
		if !bytes.Equal(file, before) {
			t.Fatalf("the argument became %x", file)
		}
	}
}

func TestP16_4SelectExamples(t *testing.T) {
	l := []api.Record{{Time: 5, Channel: 1, From: 2, Kind: 3, Bytes: []byte{1}}, {Time: 9, Channel: 1, From: 0, Kind: 0}, {Time: 5, Channel: 0, From: 2, Kind: 1}, {Time: 6, Channel: -1, From: -1, Kind: -1}, {Time: -4, Channel: 99, From: 50, Kind: 77}, {Time: math.MaxInt, Channel: 1, From: 2, Kind: 3}}
	for _, c := range []struct {
		f    api.Filter
		want []int
	}{
		{api.Filter{Channel: -1, From: -1, Kind: -1, Start: math.MinInt, End: math.MaxInt}, []int{0, 1, 2, 3, 4}}, {api.Filter{Channel: 1, From: -1, Kind: -1, End: 10}, []int{0, 1}}, {api.Filter{Channel: -1, From: 2, Kind: -1, End: 10}, []int{0, 2}}, {api.Filter{Channel: -1, From: -1, Kind: 0, End: 10}, []int{1}}, {api.Filter{Channel: 0, From: 2, Kind: 1, End: 10}, []int{2}}, {api.Filter{Channel: 1, From: 2, Kind: 1, End: 10}, nil}, {api.Filter{Channel: 1, From: 0, Kind: 3, End: 10}, nil}, {api.Filter{Channel: 0, From: 2, Kind: 3, End: 10}, nil},
		{api.Filter{Channel: -1, From: -1, Kind: -1, Start: 5, End: 6}, []int{0, 2}}, {api.Filter{Channel: -1, From: -1, Kind: -1, Start: 6, End: 9}, []int{3}}, {api.Filter{Channel: -1, From: -1, Kind: -1, Start: 6, End: 10}, []int{1, 3}}, {api.Filter{Channel: -1, From: -1, Kind: -1, Start: 5, End: 5}, nil}, {api.Filter{Channel: -1, From: -1, Kind: -1, Start: 9, End: 5}, nil}, {api.Filter{Channel: 99, From: 50, Kind: 77, Start: -4, End: 0}, []int{4}}, {api.Filter{Channel: -2, From: -1, Kind: -1, End: 10}, nil}, {api.Filter{}, nil},
	} {
		var want []api.Record
		for _, i := range c.want {
			want = append(want, l[i])
		}
		if got := capture.Select(l, c.f); !slices.EqualFunc(got, want, equal) {
			t.Errorf("Select by %+v = %v, want %v", c.f, got, want)
		}
	}
	if got := capture.Select(nil, api.Filter{Channel: -1, From: -1, Kind: -1, End: 10}); len(got) != 0 {
		t.Errorf("Select of nothing = %v", got)
	}
}

func TestP16_4SelectFollowsTheDefinition(t *testing.T) {
	random := rand.New(rand.NewSource(2))
	for range 3000 {
		l := someRecords(random, random.Intn(10))
		for i := range l {
			if random.Intn(3) == 0 {
				l[i].Time = random.Intn(40)
			}
		}
		f := api.Filter{Channel: random.Intn(5) - 2, From: random.Intn(5) - 2, Kind: random.Intn(5) - 2, Start: random.Intn(40), End: random.Intn(60)}
		want := slices.Clone(l)
		want = slices.DeleteFunc(want, func(r api.Record) bool { return f.Channel != -1 && r.Channel != f.Channel })
		want = slices.DeleteFunc(want, func(r api.Record) bool { return f.From != -1 && r.From != f.From })
		want = slices.DeleteFunc(want, func(r api.Record) bool { return f.Kind != -1 && r.Kind != f.Kind })
		want = slices.DeleteFunc(want, func(r api.Record) bool { return r.Time < f.Start || r.Time > f.End-1 })
		if got := capture.Select(l, f); !slices.EqualFunc(got, want, equal) {
			t.Fatalf("Select(%v, %+v) = %v, want %v", l, f, got, want)
		}
	}
}

func TestP16_4MergeExamples(t *testing.T) {
	a := []api.Record{{Time: 1, From: 10}, {Time: 5, From: 11}, {Time: 5, From: 12}, {Time: 9, From: 13}}
	b := []api.Record{{Time: 0, From: 20}, {Time: 5, From: 21}, {Time: 5, From: 22}, {Time: 9, From: 23}, {Time: 9, From: 24}}
	for _, c := range []struct {
		a, b []api.Record
		want []int // by From
	}{
		{a, b, []int{20, 10, 11, 12, 21, 22, 13, 23, 24}}, {b, a, []int{20, 10, 21, 22, 11, 12, 23, 24, 13}}, {a, nil, []int{10, 11, 12, 13}}, {nil, b, []int{20, 21, 22, 23, 24}}, {nil, nil, nil}, {a, a, []int{10, 10, 11, 12, 11, 12, 13, 13}}, {[]api.Record{{Time: math.MaxInt, From: 1}}, []api.Record{{Time: math.MinInt, From: 2}}, []int{2, 1}}, {[]api.Record{{Time: -5, From: 1, Channel: 999, Kind: -7}}, []api.Record{{Time: -5, From: 2}}, []int{1, 2}},
	} {
		var got []int
		for _, r := range capture.Merge(c.a, c.b) {
			got = append(got, r.From)
		}
		if !slices.Equal(got, c.want) {
			t.Errorf("Merge(%v, %v) = %v, want %v", c.a, c.b, got, c.want)
		}
	}
}

func TestP16_4MergeFollowsTheDefinition(t *testing.T) {
	random := rand.New(rand.NewSource(3))
	for round := range 3000 {
		a, b := someRecords(random, random.Intn(8)), someRecords(random, random.Intn(8))
		if round%100 == 0 {
			a, b = someRecords(random, 300), someRecords(random, 300)
		}
		var want []api.Record
		for i, j := 0, 0; i < len(a) || j < len(b); {
			if j == len(b) || i < len(a) && a[i].Time <= b[j].Time {
				want = append(want, a[i])
				i++
			} else {
				want = append(want, b[j])
				j++
			}
		}
		if got := capture.Merge(a, b); !slices.EqualFunc(got, want, equal) {
			t.Fatalf("Merge(%v, %v) = %v, want %v", a, b, got, want)
		}
	}
}

func TestP16_4NewMemory(t *testing.T) {
	whole := []byte{1, 2, 3, 4, 5, 6, 7, 8}
	l := []api.Record{{Time: 1, Bytes: whole[:2]}, {Time: 2, Bytes: whole[4:6]}, {Time: 3}, {Time: 4}}
	all := api.Filter{Channel: -1, From: -1, Kind: -1, End: 100}
	for name, got := range map[string][]api.Record{
		"Select": capture.Select(l[:2], all), "Merge of one": capture.Merge(l[:2], nil), "Merge of the other": capture.Merge(nil, l[:2]), "Merge of equal ones": capture.Merge(l[:2], l[:2]),
		"Make": capture.Make([]api.Transmission{{ID: 1, Start: 1, Bytes: whole[:2]}, {ID: 2, Start: 2, Bytes: whole[4:6]}}, nil),
	} {
		last := got[len(got)-1]
		for i, r := range got[:len(got)-1] {
			overwrite(r.Bytes)
			got[i] = api.Record{}
		}
		if !bytes.Equal(last.Bytes, []byte{5, 6}) {
			t.Errorf("%s: the records share memory", name)
		}
		overwrite(last.Bytes)
		for i := range got[:cap(got)] {
			got[:cap(got)][i] = api.Record{Time: 99}
		}
		if !bytes.Equal(whole, []byte{1, 2, 3, 4, 5, 6, 7, 8}) || l[0].Time != 1 || l[1].Time != 2 || l[2].Time != 3 || l[3].Time != 4 {
			t.Fatalf("%s: the arguments became %v, %v", name, whole, l)
		}
	}
}

func TestNothingIsModified(t *testing.T) {
	sent := []api.Transmission{{ID: 1, Start: 9, Bytes: []byte{1}}, {ID: 2, Start: 5}, {ID: 3, Start: 7}}
	got := []api.Reception{{ID: 2, Kind: 2}, {ID: 2, Kind: 1}}
	capture.Make(sent, got)
	if sent[0].ID != 1 || sent[1].ID != 2 || sent[2].ID != 3 || got[0].Kind != 2 || got[1].Kind != 1 {
		t.Errorf("Make: the arguments became %v, %v", sent, got)
	}
	whole := []byte{1, 2, 3, 4, 5, 6, 7, 8}
	l := []api.Record{{Time: 1, Bytes: whole[:2]}}
	if _, e := capture.Write(l); e != api.OK {
		t.Errorf("Write = %d", e)
	}
	if capture.Line(l[0]) != "1 0 0 none 0102" || !bytes.Equal(whole, []byte{1, 2, 3, 4, 5, 6, 7, 8}) {
		t.Errorf("the bytes became %v", whole)
	}
}

func TestP16_5LineExamples(t *testing.T) {
	for _, c := range []struct {
		r    api.Record
		want string
	}{
		{api.Record{Time: 7, Channel: 37, From: 0, Kind: 1, Bytes: []byte{0x0a, 0xff}}, "7 37 0 good 0aff"}, {api.Record{Time: 7, Channel: 37, From: 0}, "7 37 0 none -"}, {api.Record{}, "0 0 0 none -"}, {api.Record{Kind: 2, Bytes: []byte{}}, "0 0 0 lost -"}, {api.Record{Kind: 3, Bytes: []byte{0}}, "0 0 0 jammed 00"}, {api.Record{Time: api.MaxTime, Channel: 39, From: 7, Kind: 4}, "1099511627776 39 7 collided -"}, {api.Record{Kind: 5}, "0 0 0 unknown -"}, {api.Record{Kind: -1}, "0 0 0 unknown -"},
		{api.Record{Time: math.MinInt, Channel: -1, From: math.MinInt, Kind: math.MinInt, Bytes: []byte{255}}, "-9223372036854775808 -1 -9223372036854775808 unknown ff"}, {api.Record{Time: math.MaxInt, Channel: math.MaxInt, From: 100, Kind: math.MaxInt}, "9223372036854775807 9223372036854775807 100 unknown -"},
		{api.Record{Bytes: make([]byte, 1000)}, "0 0 0 none " + strings.Repeat("00", 1000)},
	} {
		if got := capture.Line(c.r); got != c.want {
			t.Errorf("Line(%v) = %q, want %q", c.r, got, c.want)
		}
	}
}

func TestP16_5LineFollowsTheDefinition(t *testing.T) {
	random := rand.New(rand.NewSource(4))
	number := func() int {
		return numbers[random.Intn(len(numbers))]
	}
	for range 3000 {
		r := api.Record{Time: number(), Channel: number(), From: number(), Kind: random.Intn(8) - 2, Bytes: make([]byte, random.Intn(10))}
		random.Read(r.Bytes)
		digits, word := fmt.Sprintf("%x", r.Bytes), "unknown"
		if digits == "" {
			digits = "-"
		}
		if r.Kind >= 0 && r.Kind < 5 {
			word = strings.Fields("none good lost jammed collided")[r.Kind]
		}
		if got, want := capture.Line(r), fmt.Sprintf("%d %d %d %s %s", r.Time, r.Channel, r.From, word, digits); got != want {
			t.Fatalf("Line(%v) = %q, want %q", r, got, want)
		}
	}
}

func TestP16_6ReadReturnsWhatWasWritten(t *testing.T) {
	random := rand.New(rand.NewSource(5))
	for range 500 {
		l := someRecords(random, random.Intn(10))
		file, e := capture.Write(l)
		if e != api.OK {
			t.Fatalf("Write(%v) = %d", l, e)
		}
		got, n, e := capture.Read(file)
		if !slices.EqualFunc(got, l, equal) || n != len(file) || e != api.OK {
			t.Fatalf("Read of the file of %v = %v, %d, %d", l, got, n, e)
		}
		again, e := capture.Write(got)
		if e != api.OK || !bytes.Equal(again, file) {
			t.Fatalf("Write of what was read = %x, %d, want %x", again, e, file)
		}
	}
}

func TestP16_6ReadOfTheBeginning(t *testing.T) {
	random := rand.New(rand.NewSource(6))
	for range 100 {
		l := someRecords(random, random.Intn(6))
		ends := []int{4}
		for _, r := range l {
			ends = append(ends, ends[len(ends)-1]+16+len(r.Bytes))
		}
		file, _ := capture.Write(l)
		if len(file) != ends[len(ends)-1] {
			t.Fatalf("the file of %v has %d bytes", l, len(file))
		}
		for size := range len(file) + 1 {
			complete, whole := sort.SearchInts(ends, size+1)-1, slices.Contains(ends, size)
			got, n, e := capture.Read(file[:size])
			want := 0
			if complete >= 0 {
				want = ends[complete]
			}
			if !slices.EqualFunc(got, l[:max(0, complete)], equal) || n != want || whole != (e == api.OK) || !whole && e != api.ErrTruncated {
				t.Fatalf("Read of %d bytes of the file of %v = %v, %d, %d", size, l, got, n, e)
			}
		}
	}
}

func TestP16_6ChangedBytesAreFound(t *testing.T) {
	random := rand.New(rand.NewSource(7))
	for range 40 {
		l := someRecords(random, 1+random.Intn(4))
		file, _ := capture.Write(l)
		place := 4
		for i, r := range l {
			for at := place; at < place+16+len(r.Bytes); at++ {
				if at == place+11 || at == place+12 {
					continue
				}
				changed := slices.Clone(file)
				changed[at] ^= byte(1 + random.Intn(255))
				if got, n, e := capture.Read(changed); !slices.EqualFunc(got, l[:i], equal) || n != place || e == api.OK {
					t.Fatalf("with the byte %d changed, Read of the file of %v = %v, %d, %d", at, l, got, n, e)
				}
			}
			place += 16 + len(r.Bytes)
		}
	}
}

func TestP16_6EveryTransmissionIsCaptured(t *testing.T) {
	random := rand.New(rand.NewSource(8))
	for range 500 {
		sent, got := someAir(random)
		made := capture.Make(sent, got)
		if len(made) != len(sent) {
			t.Fatalf("Make(%v, %v) = %v", sent, got, made)
		}
		left := slices.Clone(made)
		for _, x := range sent {
			i := slices.IndexFunc(left, func(r api.Record) bool {
				return r.Time == x.Start && r.Channel == x.Channel && r.From == x.From && bytes.Equal(r.Bytes, x.Bytes)
			})
			if i < 0 {
				t.Fatalf("%v is not in %v", x, made)
			}
			left = slices.Delete(left, i, i+1)
		}
		file, e := capture.Write(made)
		if e != api.OK {
			t.Fatalf("Write of what was made = %d", e)
		}
		if read, _, e := capture.Read(file); e != api.OK || !slices.EqualFunc(read, made, equal) {
			t.Fatalf("Read of the file of %v = %v, %d", made, read, e)
		}
	}
}

func TestNothingPanicsOnInvalidArguments(t *testing.T) {
	random := rand.New(rand.NewSource(9))
	number := func() int {
		return numbers[random.Intn(len(numbers))]
	}
	file := bytesOf(t, threeFile)
	for range 3000 {
		r := api.Record{Time: number(), Channel: number(), From: number(), Kind: number(), Bytes: make([]byte, random.Intn(300))}
		l := []api.Record{r, {Time: number()}}
		capture.Write(l)
		capture.Merge(l, l)
		capture.Select(l, api.Filter{Channel: number(), From: number(), Kind: number(), Start: number(), End: number()})
		capture.Make([]api.Transmission{{ID: number(), Start: number()}, {ID: number(), From: number()}}, []api.Reception{{ID: number(), Kind: number()}})
		changed := slices.Clone(file)
		for range 1 + random.Intn(3) {
			changed[4+random.Intn(len(changed)-4)] = byte(random.Intn(256))
		}
		if l, n, _ := capture.Read(changed); n < 4 || len(l) > 3 {
			t.Fatalf("Read(%x) = %v, %d", changed, l, n)
		}
	}
}

// record appends the bytes of a record, which need not be valid.
func record(file []byte, time uint64, channel, from, kind byte, own []byte) []byte {
	var b []byte
	for range 8 {
		b = append(b, byte(time%256))
		time /= 256
	}
	b = append(b, channel, from, kind, byte(len(own)%256), byte(len(own)/256))
	b = append(b, own...)
	sum := checksum(b)
	return append(append(file, b...), byte(sum%256), byte(sum/256%256), byte(sum/65536))
}

// checksum feeds the bits one by one.
func checksum(b []byte) int {
	register := 0
	for _, c := range b {
		for bit := range 8 {
			x := register%2 ^ int(c)>>bit%2
			register /= 2
			if x == 1 {
				register ^= 0xda6000
			}
		}
	}
	return register
}

// someRecords returns valid records whose times do not decrease.
func someRecords(random *rand.Rand, n int) []api.Record {
	var l []api.Record
	time := random.Intn(5)
	for range n {
		r := api.Record{Time: time, Channel: random.Intn(3), From: random.Intn(3), Kind: random.Intn(3), Bytes: make([]byte, random.Intn(4)*random.Intn(10))}
		if random.Intn(4) == 0 {
			r.Channel, r.From, r.Kind = random.Intn(40), random.Intn(8), random.Intn(5)
		}
		random.Read(r.Bytes)
		l = append(l, r)
		time += random.Intn(3) * random.Intn(5)
	}
	return l
}

// someAir returns transmissions, and what was received of them.
func someAir(random *rand.Rand) ([]api.Transmission, []api.Reception) {
	a := api.Air{Devices: 3, Links: []api.Pair{{A: 0, B: 1}, {A: 0, B: 2}, {A: 1, B: 2}}, Jams: []api.Jam{{Channel: 1, Start: 500, End: 1500}}, Losses: []api.Loss{{ID: 3, To: 1}, {ID: 6, To: 2}, {ID: 6, To: 0}}}
	var sent []api.Transmission
	for id := range random.Intn(10) {
		sent = append(sent, api.Transmission{ID: id*3 - 6, From: random.Intn(3), Channel: random.Intn(3), Start: 400 * random.Intn(8), Bytes: make([]byte, random.Intn(30))})
		random.Read(sent[id].Bytes)
	}
	var listens []api.Listen
	for range random.Intn(12) {
		start := 400 * random.Intn(8)
		listens = append(listens, api.Listen{Device: random.Intn(3), Channel: random.Intn(3), Start: start, End: start + 1})
	}
	got := air.All(a, sent, listens)
	random.Shuffle(len(got), func(i, j int) { got[i], got[j] = got[j], got[i] })
	return sent, got
}

func equal(x, y api.Record) bool {
	return x.Time == y.Time && x.Channel == y.Channel && x.From == y.From && x.Kind == y.Kind && bytes.Equal(x.Bytes, y.Bytes)
}

// overwrite changes all bytes, those of the spare capacity as well.
func overwrite(b []byte) {
	b = b[:cap(b)]
	for i := range b {
		b[i] ^= 0xff
	}
}

// bytesOf returns the bytes of hexadecimal digits.
func bytesOf(t *testing.T, digits string) []byte {
	b, e := hex.DecodeString(digits)
	if e != nil {
		t.Fatal(e)
	}
	return b
}
