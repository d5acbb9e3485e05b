package adata_test

import (
	"bytes"
	"encoding/hex"
	"math"
	"math/rand"
	"slices"
	"strings"
	"testing"

	"wireless/adata"
	"wireless/api"
)

// kinds are kinds around which mistakes are likely, valid ones and others.
var kinds = []int{math.MinInt, math.MinInt + 1, -256, -255, -1, 0, 1, 2, 3, 4, 8, 9, 10, 22, 127, 128, 254, 255, 256, 257, 259, 265, 511, 65536, 1 << 32, math.MaxInt}

// contents are lists of elements with their bytes.
var contents = []struct {
	l []api.Element
	b string
}{
	{nil, ""},
	{[]api.Element{{Kind: 5}}, "0105"},
	{[]api.Element{{}}, "0100"},
	{[]api.Element{{Kind: 255, Value: []byte{0}}}, "02ff00"},
	{[]api.Element{{}, {}, {}}, "010001000100"},
	{[]api.Element{{Kind: 1, Value: []byte{6}}, {Kind: 3, Value: []byte{1, 0x18}}, {Kind: 9, Value: []byte("ab")}}, "020106" + "03030118" + "03096162"},
	{[]api.Element{{Kind: 9, Value: []byte("ab")}, {Kind: 1, Value: []byte{6}}, {Kind: 9}}, "03096162" + "020106" + "0109"},
	{[]api.Element{{Kind: 22, Value: []byte{0, 0, 255, 1, 2}}, {Kind: 22, Value: []byte{0}}}, "06160000ff0102" + "021600"},
	{[]api.Element{{Kind: 128, Value: make([]byte, 29)}}, "1e80" + strings.Repeat("00", 29)},
	{[]api.Element{{Kind: 7, Value: make([]byte, 27)}, {Kind: 1}}, "1c07" + strings.Repeat("00", 27) + "0101"},
	{[]api.Element{{Kind: 7, Value: []byte{1}}, {}, {}, {}, {}, {}, {}, {}, {}, {}, {}, {}, {}, {}, {}}, "020701" + strings.Repeat("0100", 14)},
}

func TestP18_1EncodeExamples(t *testing.T) {
	for _, c := range contents {
		if got, e := adata.Encode(c.l); e != api.OK || hex.EncodeToString(got) != c.b {
			t.Errorf("Encode(%v) = %x, %v, want %s", c.l, got, e, c.b)
		}
	}
	if got, e := adata.Encode([]api.Element{}); e != api.OK || len(got) != 0 {
		t.Errorf("Encode of no elements = %x, %v", got, e)
	}
}

func TestP18_1EncodeRefusesKinds(t *testing.T) {
	valid, long := api.Element{Kind: 7, Value: []byte{1}}, api.Element{Kind: 7, Value: make([]byte, 40)}
	for _, kind := range kinds {
		want := api.OK
		if kind < 0 || kind > 255 {
			want = api.ErrRange
		}
		element := api.Element{Kind: kind, Value: []byte{2}}
		for _, l := range [][]api.Element{{element}, {element, valid}, {valid, element}, {valid, element, valid}} {
			got, e := adata.Encode(l)
			if e != want || e != api.OK && len(got) != 0 {
				t.Errorf("Encode(%v) = %x, %v, want %v", l, got, e, want)
			}
		}
		// A kind that is none counts more than too many bytes, wherever it stands.
		if want == api.OK {
			want = api.ErrTooLong
		}
		for _, l := range [][]api.Element{{long, element}, {element, long}, {{Kind: kind, Value: long.Value}}, {long, long, long, element}} {
			if got, e := adata.Encode(l); e != want || len(got) != 0 {
				t.Errorf("Encode(%v) = %x, %v, want %v", l, got, e, want)
			}
		}
	}
}

func TestP18_1EncodeLimitsTheBytes(t *testing.T) {
	for _, first := range []int{0, 1, 2, 10, 27, 28, 29, 30, 31, 32, 253, 254, 255, 256, 300, 65535, 65536, 1 << 20} {
		for _, second := range []int{-1, 0, 1, 2, 15, 16, 17, 18, 19, 27, 28, 254, 255, 256} {
			l, size := []api.Element{{Kind: 7, Value: make([]byte, first)}}, 2+first
			if second >= 0 {
				l, size = append(l, api.Element{Kind: 8, Value: make([]byte, second)}), size+2+second
			}
			got, e := adata.Encode(l)
			if size <= 31 && (e != api.OK || len(got) != size) {
				t.Errorf("Encode of %d bytes = %x, %v", size, got, e)
			}
			if size > 31 && (e != api.ErrTooLong || len(got) != 0) {
				t.Errorf("Encode of %d bytes = %x, %v", size, got, e)
			}
		}
	}
	if got, e := adata.Encode(make([]api.Element, 15)); e != api.OK || len(got) != 30 {
		t.Errorf("Encode of 15 elements = %x, %v", got, e)
	}
	if got, e := adata.Encode(make([]api.Element, 16)); e != api.ErrTooLong || len(got) != 0 {
		t.Errorf("Encode of 16 elements = %x, %v", got, e)
	}
}

func TestP18_2DecodeExamples(t *testing.T) {
	for _, c := range contents {
		b := unhex(t, c.b)
		if got, e := adata.Decode(b); e != api.OK || !slices.EqualFunc(got, c.l, equal) {
			t.Errorf("Decode(%s) = %v, %v, want %v", c.b, got, e, c.l)
		}
		if hex.EncodeToString(b) != c.b {
			t.Errorf("the argument became %x", b)
		}
	}
	if got, e := adata.Decode([]byte{}); e != api.OK || len(got) != 0 {
		t.Errorf("Decode of no bytes = %v, %v", got, e)
	}
}

func TestP18_2DecodeRejects(t *testing.T) {
	for _, c := range []struct {
		b    string
		want api.Errno
	}{
		{"0201", api.ErrTruncated}, {"02010600", api.ErrSyntax}, {"00", api.ErrSyntax}, {"01", api.ErrTruncated}, {"0000", api.ErrSyntax}, {"ff", api.ErrTruncated}, {"02", api.ErrTruncated}, {"0105" + "00", api.ErrSyntax}, {"0105" + "01", api.ErrTruncated}, {"00" + "0201", api.ErrSyntax}, {"0105" + "020106" + "0309", api.ErrTruncated}, {"0105" + "020106" + "030961", api.ErrTruncated}, {"0201" + "0000", api.ErrSyntax}, {"0301" + "00", api.ErrTruncated},
		{"1e80" + strings.Repeat("00", 28), api.ErrTruncated}, {"1d80" + strings.Repeat("00", 29), api.ErrSyntax}, {"1f80" + strings.Repeat("00", 29), api.ErrTruncated}, {"ff80" + strings.Repeat("00", 29), api.ErrTruncated},
		{"1f80" + strings.Repeat("00", 30), api.ErrTooLong}, {strings.Repeat("0105", 16), api.ErrTooLong}, {strings.Repeat("00", 32), api.ErrTooLong}, {strings.Repeat("ff", 32), api.ErrTooLong}, {"ff" + strings.Repeat("00", 255), api.ErrTooLong}, {strings.Repeat("0105", 50000), api.ErrTooLong},
		{strings.Repeat("00", 31), api.ErrSyntax}, {strings.Repeat("ff", 31), api.ErrTruncated}, {strings.Repeat("0105", 15) + "01", api.ErrTruncated}, {strings.Repeat("0105", 15) + "00", api.ErrSyntax},
	} {
		if got, e := adata.Decode(unhex(t, c.b)); e != c.want || len(got) != 0 {
			t.Errorf("Decode(%s) = %v, %v, want %v", c.b, got, e, c.want)
		}
	}
}

func TestP18_2DecodeFollowsTheDefinition(t *testing.T) {
	for b := range someData() {
		before := slices.Clone(b)
		want, wanted := decode(b)
		if got, e := adata.Decode(b); e != wanted || !slices.EqualFunc(got, want, equal) {
			t.Fatalf("Decode(%x) = %v, %v, want %v, %v", b, got, e, want, wanted)
		}
		if !bytes.Equal(b, before) {
			t.Fatalf("the argument %x became %x", before, b)
		}
	}
}

func TestP18_3FindExamples(t *testing.T) {
	for _, c := range []struct {
		b    string
		kind int
		want string
		ok   bool
	}{
		{"020106" + "03030118" + "03096162", 1, "06", true}, {"020106" + "03030118" + "03096162", 3, "0118", true}, {"020106" + "03030118" + "03096162", 9, "6162", true}, {"020106" + "03030118" + "03096162", 255, "", false}, {"020106" + "03030118" + "03096162", 2, "", false},
		{"", 1, "", false}, {"", 0, "", false}, {"0105", 5, "", true}, {"0105", 0, "", false}, {"0100", 0, "", true}, {"02ff07", 255, "07", true}, {"02ff07", -1, "", false}, {"02ff07", 511, "", false}, {"020107", 257, "", false}, {"020107", math.MinInt + 1, "", false},
		{"020107" + "020108", 1, "07", true}, {"0101" + "020108", 1, "", true}, {"020207" + "020108" + "03010809", 1, "08", true},
		{"020107" + "00", 1, "", false}, {"020107" + "02", 1, "", false}, {"020107" + strings.Repeat("0105", 14), 1, "07", true}, {"020107" + strings.Repeat("0105", 15), 1, "", false},
	} {
		b := unhex(t, c.b)
		if got, ok := adata.Find(b, c.kind); ok != c.ok || hex.EncodeToString(got) != c.want {
			t.Errorf("Find(%s, %d) = %x, %t, want %s, %t", c.b, c.kind, got, ok, c.want, c.ok)
		}
		if hex.EncodeToString(b) != c.b {
			t.Errorf("the argument became %x", b)
		}
	}
}

func TestP18_3NameExamples(t *testing.T) {
	for _, c := range []struct{ b, want string }{
		{"020106" + "03030118" + "03096162", "ab"}, {"", ""}, {"020106", ""}, {"0109", ""}, {"0109" + "03096162", ""}, {"030963ff" + "03096162", "c\xff"}, {"03090000", "\x00\x00"}, {"1e09" + strings.Repeat("7a", 29), strings.Repeat("z", 29)}, {"03086162", ""}, {"03096162" + "00", ""}, {"03096162" + "0209", ""}, {"1f09" + strings.Repeat("7a", 30), ""}, {"03096162" + strings.Repeat("0105", 14), ""},
	} {
		if got := adata.Name(unhex(t, c.b)); got != c.want {
			t.Errorf("Name(%s) = %q, want %q", c.b, got, c.want)
		}
	}
}

func TestP18_3ServicesExamples(t *testing.T) {
	for _, c := range []struct {
		b    string
		want []uint16
	}{
		{"020106" + "03030118" + "03096162", []uint16{6145}}, {"", nil}, {"020106", nil}, {"0103", nil}, {"020301", nil}, {"03030001", []uint16{256}}, {"0303ffff", []uint16{65535}}, {"0503010002000103", []uint16{1, 2}}, {"0403010002", []uint16{1}}, {"05030100ff7f", []uint16{1, 32767}},
		{"0303feca" + "020106" + "0503efbeadde", []uint16{0xcafe, 0xbeef, 0xdead}}, {"0403010002" + "03030300", []uint16{1, 3}}, {"020301" + "020302", nil}, {"020301" + "0103" + "03030300", []uint16{3}}, {"03020100" + "03040200", nil}, {"03030100" + "03030100", []uint16{1, 1}},
		{"03030100" + "00", nil}, {"03030100" + "04030200", nil}, {"03030100" + strings.Repeat("0105", 13), []uint16{1}}, {"03030100" + strings.Repeat("0105", 14), nil}, {"1d03" + strings.Repeat("0100", 14), slices.Repeat([]uint16{1}, 14)}, {"1e03" + strings.Repeat("0100", 14) + "01", slices.Repeat([]uint16{1}, 14)}, {"2103" + strings.Repeat("0100", 16), nil},
	} {
		b := unhex(t, c.b)
		if got := adata.Services(b); !slices.Equal(got, c.want) {
			t.Errorf("Services(%s) = %v, want %v", c.b, got, c.want)
		}
		if hex.EncodeToString(b) != c.b {
			t.Errorf("the argument became %x", b)
		}
	}
}

func TestP18_3FollowsTheDefinition(t *testing.T) {
	for b := range someData() {
		// Together with an error there are no elements.
		l, _ := decode(b)
		for _, kind := range []int{-1, 0, 1, 2, 3, 9, 255, 256} {
			at := slices.IndexFunc(l, func(element api.Element) bool { return element.Kind == kind })
			var want []byte
			if at >= 0 {
				want = l[at].Value
			}
			if got, ok := adata.Find(b, kind); ok != (at >= 0) || !bytes.Equal(got, want) {
				t.Fatalf("Find(%x, %d) = %x, %t, want %x", b, kind, got, ok, want)
			}
			if got := adata.Name(b); kind == 9 && got != string(want) {
				t.Fatalf("Name(%x) = %q, want %q", b, got, want)
			}
		}
		var want []uint16
		for _, element := range l {
			for i := 1; i < len(element.Value) && element.Kind == 3; i += 2 {
				want = append(want, uint16(element.Value[i])*256+uint16(element.Value[i-1]))
			}
		}
		if got := adata.Services(b); !slices.Equal(got, want) {
			t.Fatalf("Services(%x) = %v, want %v", b, got, want)
		}
	}
}

func TestP18_4BuildExamples(t *testing.T) {
	for _, c := range []struct {
		flags    int
		name     string
		services []uint16
		want     string
		e        api.Errno
	}{
		{6, "ab", []uint16{6145}, "020106" + "03030118" + "03096162", api.OK}, {6, "ab", nil, "020106" + "03096162", api.OK}, {6, "", []uint16{6145}, "020106" + "03030118", api.OK}, {6, "", nil, "020106", api.OK}, {0, "", nil, "020100", api.OK}, {255, "", nil, "0201ff", api.OK}, {6, "", []uint16{}, "020106", api.OK},
		{1, "\x00\xff", []uint16{0xcafe, 0, 65535, 0xcafe}, "020101" + "0903feca0000fffffeca" + "030900ff", api.OK}, {0, "\u00e9", nil, "020100" + "0309c3a9", api.OK},
		{0, strings.Repeat("z", 26), nil, "020100" + "1b09" + strings.Repeat("7a", 26), api.OK}, {0, strings.Repeat("z", 27), nil, "", api.ErrTooLong}, {0, strings.Repeat("z", 22), []uint16{1}, "020100" + "03030100" + "1709" + strings.Repeat("7a", 22), api.OK}, {0, strings.Repeat("z", 23), []uint16{1}, "", api.ErrTooLong}, {0, strings.Repeat("z", 300), nil, "", api.ErrTooLong}, {0, strings.Repeat("z", 65536), []uint16{1}, "", api.ErrTooLong},
		{0, "", make([]uint16, 13), "020100" + "1b03" + strings.Repeat("0000", 13), api.OK}, {0, "", make([]uint16, 14), "", api.ErrTooLong}, {0, "z", make([]uint16, 12), "", api.ErrTooLong}, {0, "z", make([]uint16, 11), "020100" + "1703" + strings.Repeat("0000", 11) + "02097a", api.OK}, {0, "", make([]uint16, 127), "", api.ErrTooLong}, {0, "", make([]uint16, 128), "", api.ErrTooLong}, {0, "", make([]uint16, 65536), "", api.ErrTooLong},
		{256, strings.Repeat("z", 40), nil, "", api.ErrRange}, {256, "", nil, "", api.ErrRange}, {-1, "", nil, "", api.ErrRange}, {-1, "z", []uint16{1}, "", api.ErrRange}, {-1, "", make([]uint16, 14), "", api.ErrRange}, {511, "", nil, "", api.ErrRange}, {1 << 32, "", nil, "", api.ErrRange}, {math.MinInt, "", nil, "", api.ErrRange}, {math.MaxInt, "", nil, "", api.ErrRange}, {-250, "", nil, "", api.ErrRange},
	} {
		before := slices.Clone(c.services)
		if got, e := adata.Build(c.flags, c.name, c.services...); e != c.e || hex.EncodeToString(got) != c.want {
			t.Errorf("Build(%d, %q, %v) = %x, %v, want %s, %v", c.flags, c.name, c.services, got, e, c.want, c.e)
		}
		if !slices.Equal(before, c.services) {
			t.Errorf("the services became %v", c.services)
		}
	}
}

func TestP18_4BuildFollowsTheDefinition(t *testing.T) {
	random := rand.New(rand.NewSource(1))
	for range 50000 {
		flags, name, services := random.Intn(262)-3, randomBytes(random, random.Intn(32)), randomServices(random, random.Intn(16))
		want := []byte{2, 1, byte(flags)}
		if len(services) > 0 {
			want = append(want, byte(1+2*len(services)), 3)
		}
		for _, service := range services {
			want = append(want, byte(service%256), byte(service/256))
		}
		if len(name) > 0 {
			want = append(append(want, byte(1+len(name)), 9), name...)
		}
		wanted := api.OK
		switch {
		case flags < 0 || flags > 255:
			want, wanted = nil, api.ErrRange
		case len(want) > 31:
			want, wanted = nil, api.ErrTooLong
		}
		if got, e := adata.Build(flags, string(name), services...); e != wanted || !bytes.Equal(got, want) {
			t.Fatalf("Build(%d, %q, %v) = %x, %v, want %x, %v", flags, name, services, got, e, want, wanted)
		}
	}
}

func TestP18_5DecodeInvertsEncode(t *testing.T) {
	random := rand.New(rand.NewSource(2))
	encoded := 0
	for range 50000 {
		var l []api.Element
		for range random.Intn(8) {
			l = append(l, api.Element{Kind: random.Intn(256), Value: randomBytes(random, random.Intn(8))})
		}
		b, e := adata.Encode(l)
		if e == api.ErrTooLong {
			continue
		}
		encoded++
		if got, e := adata.Decode(b); e != api.OK || !slices.EqualFunc(got, l, equal) {
			t.Fatalf("Decode(%x) = %v, %v, want %v", b, got, e, l)
		}
	}
	if encoded < 10000 {
		t.Errorf("only %d lists were encoded", encoded)
	}
}

func TestP18_5DecodedBytesAreThoseOfTheResult(t *testing.T) {
	accepted := 0
	for b := range someData() {
		l, e := adata.Decode(b)
		if e != api.OK {
			continue
		}
		accepted++
		if got, e := adata.Encode(l); e != api.OK || !bytes.Equal(got, b) {
			t.Fatalf("Encode(%v) = %x, %v, want %x", l, got, e, b)
		}
	}
	if accepted < 1000 {
		t.Errorf("only %d data were accepted", accepted)
	}
}

func TestP18_6Contents(t *testing.T) {
	random := rand.New(rand.NewSource(3))
	built := 0
	for range 50000 {
		flags, name, services := random.Intn(256), string(randomBytes(random, random.Intn(27))), randomServices(random, random.Intn(14))
		b, e := adata.Build(flags, name, services...)
		if e == api.ErrTooLong {
			continue
		}
		built++
		if got := adata.Name(b); got != name {
			t.Fatalf("Name(%x) = %q, want %q", b, got, name)
		}
		if got := adata.Services(b); !slices.Equal(got, services) {
			t.Fatalf("Services(%x) = %v, want %v", b, got, services)
		}
		if got, ok := adata.Find(b, api.ElementFlags); !ok || !bytes.Equal(got, []byte{byte(flags)}) {
			t.Fatalf("Find(%x, 1) = %x, %t, want %x", b, got, ok, flags)
		}
	}
	if built < 10000 {
		t.Errorf("only %d data were built", built)
	}
}

func TestR5ResultsAreNewMemory(t *testing.T) {
	const data = "030101020303030403090506"
	b := unhex(t, data)
	l, _ := adata.Decode(b)
	for i := range l {
		spoil(l[i].Value)
	}
	found, _ := adata.Find(b, 3)
	spoil(found)
	if hex.EncodeToString(b) != data {
		t.Errorf("the data became %x", b)
	}
	for i := range l {
		l, _ = adata.Decode(b)
		spoil(l[i].Value)
		for j, want := range []string{"0102", "0304", "0506"} {
			if i != j && hex.EncodeToString(l[j].Value) != want {
				t.Errorf("value %d changed with value %d", j, i)
			}
		}
	}
	value := []byte{1, 2}
	encoded, _ := adata.Encode([]api.Element{{Kind: 5, Value: value[:1]}})
	spoil(encoded)
	if value[0] != 1 || value[1] != 2 {
		t.Errorf("the value became %v", value)
	}
}

// spoil overwrites all memory of b.
func spoil(b []byte) {
	b = b[:cap(b)]
	for i := range b {
		b[i] = 99
	}
}

// decode is P18.2; the numbers of bytes are those of the elements, one after the other.
func decode(b []byte) ([]api.Element, api.Errno) {
	if len(b) > 31 {
		return nil, api.ErrTooLong
	}
	var l []api.Element
	for at := 0; at < len(b); {
		n := int(b[at])
		if n == 0 {
			return nil, api.ErrSyntax
		}
		if len(b)-at-1 < n {
			return nil, api.ErrTruncated
		}
		l = append(l, api.Element{Kind: int(b[at+1]), Value: b[at+2 : at+1+n]})
		at += 1 + n
	}
	return l, api.OK
}

// someData yields all data of at most 6 bytes that are likely to be data with mistakes, and longer random ones.
func someData() func(yield func([]byte) bool) {
	return func(yield func([]byte) bool) {
		letters := []byte{0, 1, 2, 3, 9, 255}
		for size := range 7 {
			count := int(math.Pow(float64(len(letters)), float64(size)))
			for i := range count {
				b := make([]byte, size, size+3)
				for at, rest := 0, i; at < size; at, rest = at+1, rest/len(letters) {
					b[at] = letters[rest%len(letters)]
				}
				if !yield(b) {
					return
				}
			}
		}
		random := rand.New(rand.NewSource(4))
		for range 50000 {
			if !yield(randomData(random)) {
				return
			}
		}
	}
}

// randomData returns the bytes of random elements, often with a mistake.
func randomData(random *rand.Rand) []byte {
	var b []byte
	for range random.Intn(8) {
		value := randomBytes(random, random.Intn(8))
		b = append(b, byte(1+len(value)), []byte{1, 3, 3, 9, byte(random.Intn(256))}[random.Intn(5)])
		b = append(b, value...)
	}
	if random.Intn(2) == 0 || len(b) == 0 {
		return b
	}
	switch at := random.Intn(len(b)); random.Intn(3) {
	case 0:
		b[at] = byte(random.Intn(40))
	case 1:
		b = b[:at]
	case 2:
		b = append(b, randomBytes(random, 1+random.Intn(3))...)
	}
	return b
}

func randomBytes(random *rand.Rand, n int) []byte {
	b := make([]byte, n)
	random.Read(b)
	return b
}

func randomServices(random *rand.Rand, n int) []uint16 {
	l := make([]uint16, n)
	for i := range l {
		l[i] = uint16(random.Intn(65536))
	}
	return l
}

func equal(a, b api.Element) bool {
	return a.Kind == b.Kind && bytes.Equal(a.Value, b.Value)
}

func unhex(t *testing.T, s string) []byte {
	t.Helper()
	b, err := hex.DecodeString(s)
	if err != nil {
		t.Fatal(err)
	}
	return b
}
