package link_test

import (
	"bytes"
	"fmt"
	"reflect"
	"slices"
	"testing"

	"wireless/api"
	"wireless/link"
)

// The functions of this file call the layer, compare what it returns with the model, and check that the arguments stay as they are and that nothing shares memory.

func do(t *testing.T, l api.Link, a api.Act, now int) (api.Link, api.Errno) {
	t.Helper()
	before, packet := whole(l), bytes.Clone(a.Packet.Payload)
	m := newModel(l)
	wantE := m.do(a, now)
	s, e := link.Do(l, a, now)
	name := fmt.Sprintf("Do(%+v, %d)", a, now)
	if e != wantE {
		t.Fatalf("%s of %+v: %v, want %v", name, l, e, wantE)
	}
	if e != api.OK {
		m.l = before
	}
	compare(t, name, before, s, m.l)
	stays(t, name, before, l)
	if !bytes.Equal(packet, a.Packet.Payload) {
		t.Fatalf("%s changed the packet", name)
	}
	apart(t, name, []any{s}, []any{l, a})
	return s, e
}

func send(t *testing.T, l api.Link) (api.Link, []byte) {
	t.Helper()
	before, m := whole(l), newModel(l)
	want := m.send()
	s, b := link.Send(l)
	compare(t, "Send", before, s, m.l)
	if !bytes.Equal(b, want) {
		t.Fatalf("Send of %+v\n got %x\nwant %x", l, b, want)
	}
	stays(t, "Send", before, l)
	apart(t, "Send", []any{s, b}, []any{l})
	return s, b
}

func receive(t *testing.T, l api.Link, b []byte, first bool, began int) (api.Link, []api.Indication, bool) {
	t.Helper()
	before, bytesBefore, m := whole(l), bytes.Clone(b), newModel(l)
	wantOn := m.receive(b, first, began)
	s, told, on := link.Receive(l, b, first, began)
	name := fmt.Sprintf("Receive(%x, %v, %d)", b, first, began)
	compare(t, name, before, s, m.l)
	sameReports(t, name, told, m.told)
	if on != wantOn {
		t.Fatalf("%s of %+v: the event goes on: %v, want %v", name, l, on, wantOn)
	}
	stays(t, name, before, l)
	if !bytes.Equal(b, bytesBefore) {
		t.Fatalf("%s changed the bytes", name)
	}
	apart(t, name, []any{s, told}, []any{l, b})
	return s, told, on
}

func closed(t *testing.T, l api.Link, now int) (api.Link, []api.Indication) {
	t.Helper()
	before, m := whole(l), newModel(l)
	m.close(now)
	s, told := link.Close(l, now)
	name := fmt.Sprintf("Close(%d)", now)
	compare(t, name, before, s, m.l)
	sameReports(t, name, told, m.told)
	stays(t, name, before, l)
	apart(t, name, []any{s, told}, []any{l})
	return s, told
}

// looks checks the functions that only look at a side.
func looks(t *testing.T, l api.Link) {
	t.Helper()
	if got, want := link.Channel(l), modelChannel(l); got != want {
		t.Fatalf("Channel of %+v = %d, want %d", l, got, want)
	}
	if got, want := link.Window(l), modelWindow(l); got != want {
		t.Fatalf("Window of %+v = %v, want %v", l, got, want)
	}
	if got, want := link.Skips(l), modelSkips(l); got != want {
		t.Fatalf("Skips of %+v = %v, want %v", l, got, want)
	}
}

// same reports whether two sides are equal; empty lists are, nil or not.
func same(a, b api.Link) bool {
	return reflect.DeepEqual(normal(a), normal(b))
}

func normal(l api.Link) api.Link {
	l.Arq.Queue, l.Procs.Waiting, l.Procs.Pending = list(l.Arq.Queue), list(l.Procs.Waiting), list(l.Procs.Pending)
	l.Tallies, l.Commands = list(l.Tallies), list(l.Commands)
	return l
}

// list returns a list that is nil if it is empty.
func list[T any](l []T) []T {
	if len(l) == 0 {
		return nil
	}
	return l
}

func compare(t *testing.T, name string, from, got, want api.Link) {
	t.Helper()
	if !same(got, want) {
		t.Fatalf("%s of\n     %+v\n got %+v\nwant %+v", name, from, got, want)
	}
}

func stays(t *testing.T, name string, before, after api.Link) {
	t.Helper()
	if !same(before, after) {
		t.Fatalf("%s changed its argument\nfrom %+v\nto   %+v", name, before, after)
	}
}

func sameReports(t *testing.T, name string, got, want []api.Indication) {
	t.Helper()
	if !reflect.DeepEqual(list(got), list(want)) {
		t.Fatalf("%s reports\n     %+v\nwant %+v", name, got, want)
	}
}

// A stretch is the memory of a list, from its first byte up to, but not including, an end.
type stretch struct {
	start, end uintptr
}

// stretches returns the memory of all lists within a value, with what lies behind their elements.
func stretches(v reflect.Value) []stretch {
	var l []stretch
	switch v.Kind() {
	case reflect.Interface:
		return stretches(v.Elem())
	case reflect.Struct:
		for i := range v.NumField() {
			l = append(l, stretches(v.Field(i))...)
		}
	case reflect.Slice:
		if size := uintptr(v.Cap()) * v.Type().Elem().Size(); size > 0 {
			l = append(l, stretch{v.Pointer(), v.Pointer() + size})
		}
		if k := v.Type().Elem().Kind(); k != reflect.Slice && k != reflect.Struct && k != reflect.Interface {
			return l
		}
		for i := range v.Len() {
			l = append(l, stretches(v.Index(i))...)
		}
	}
	return l
}

// apart checks that no two lists of the results, and no list of the results and one of the arguments, share memory.
func apart(t *testing.T, name string, results, arguments []any) {
	t.Helper()
	l := stretches(reflect.ValueOf(results))[1:] // without the list of the results itself
	others := stretches(reflect.ValueOf(arguments))[1:]
	slices.SortFunc(l, func(a, b stretch) int { return int(a.start) - int(b.start) })
	for i, a := range l {
		if i > 0 && l[i-1].end > a.start {
			t.Fatalf("%s: two lists of the results share memory", name)
		}
		for _, b := range others {
			if a.start < b.end && b.start < a.end {
				t.Fatalf("%s: a result and an argument share memory", name)
			}
		}
	}
}
