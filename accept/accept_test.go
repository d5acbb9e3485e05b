package accept_test

import (
	"math"
	"math/rand"
	"slices"
	"testing"

	"wireless/accept"
	"wireless/address"
	"wireless/api"
	"wireless/privacy"
)

// The valid addresses of the tests; A to D are those of devices, R and S are resolvable with the key 9, T with the key 8, and U with none of them.
var (
	A = api.Address{Kind: api.AddrPublic, Bits: 0xa1b2c3d4}
	B = api.Address{Kind: api.AddrStatic, Bits: 0xc00000000001}
	C = api.Address{Kind: api.AddrPublic, Bits: 1}
	D = api.Address{Kind: api.AddrAnonymous, Bits: 1}
	R = made(9, 77)
	S = made(9, 78)
	T = made(8, 77)
	U = api.Address{Kind: api.AddrResolvable, Bits: R.Bits ^ 1}
)

// wrong are addresses that are not valid, with the errors of address.Check; some differ from a valid one in a single number.
var wrong = []struct {
	a api.Address
	e api.Errno
}{
	{api.Address{}, api.ErrKind}, {api.Address{Kind: 5, Bits: 1}, api.ErrKind}, {api.Address{Kind: -1, Bits: A.Bits}, api.ErrKind}, {api.Address{Kind: 0, Bits: A.Bits}, api.ErrKind}, {api.Address{Kind: 257, Bits: A.Bits}, api.ErrKind}, {api.Address{Kind: 6, Bits: 1 << 48}, api.ErrKind},
	{api.Address{Kind: api.AddrPublic, Bits: 1 << 48}, api.ErrRange}, {api.Address{Kind: api.AddrPublic, Bits: A.Bits + 1<<48}, api.ErrRange}, {api.Address{Kind: api.AddrStatic, Bits: math.MaxUint64}, api.ErrRange},
	{api.Address{Kind: api.AddrStatic, Bits: 1}, api.ErrInvalid}, {api.Address{Kind: api.AddrAnonymous}, api.ErrInvalid}, {api.Address{Kind: api.AddrResolvable, Bits: B.Bits}, api.ErrInvalid},
}

// keys are the keys of identities; the first one is none.
var keys = []api.Key{0, 7, 8, 9}

// otherNumbers are numbers that are neither policies nor requests.
var otherNumbers = []int{math.MinInt, math.MinInt + 1, -256, -2, -1, 7, 8, 255, 256, 257, 1 << 32, 1<<32 + 3, 1<<32 + 5, math.MaxInt}

func TestP20_1AddExamples(t *testing.T) {
	full := many(api.MaxList)
	for _, c := range []struct {
		l    []api.Address
		a    api.Address
		want []api.Address
		e    api.Errno
	}{
		{nil, A, list(A), api.OK}, {list(), A, list(A), api.OK}, {list(A), A, list(A), api.ErrExists}, {list(A), B, list(A, B), api.OK}, {list(B), A, list(B, A), api.OK}, {list(A, B, C), D, list(A, B, C, D), api.OK}, {list(A, R), S, list(A, R, S), api.OK},
		{list(A, B, C), A, list(A, B, C), api.ErrExists}, {list(A, B, C), B, list(A, B, C), api.ErrExists}, {list(A, B, C), C, list(A, B, C), api.ErrExists}, {list(C), D, list(C, D), api.OK},
		{full[:63], A, append(many(63), A), api.OK}, {full[:62], A, append(many(62), A), api.OK}, {full, A, full, api.ErrFull}, {full, full[63], full, api.ErrExists}, {full, full[0], full, api.ErrExists}, {many(65), A, many(65), api.ErrFull}, {many(65), many(65)[64], many(65), api.ErrExists}, {many(1000), A, many(1000), api.ErrFull},
		{list(A, A), A, list(A, A), api.ErrExists}, {list(A, A), B, list(A, A, B), api.OK}, {list(api.Address{}, wrong[1].a), B, list(api.Address{}, wrong[1].a, B), api.OK},
	} {
		before := slices.Clone(c.l)
		if got, e := accept.Add(c.l, c.a); e != c.e || !slices.Equal(got, c.want) {
			t.Errorf("Add(%v, %v) = %v, %v, want %v, %v", c.l, c.a, got, e, c.want, c.e)
		}
		if !slices.Equal(c.l, before) {
			t.Errorf("the list became %v", c.l)
		}
	}
}

func TestP20_1AddChecksTheAddressFirst(t *testing.T) {
	for _, w := range wrong {
		for _, l := range [][]api.Address{nil, list(A), list(A, w.a), many(api.MaxList), append(many(api.MaxList), w.a)} {
			if got, e := accept.Add(l, w.a); e != w.e || !slices.Equal(got, l) {
				t.Errorf("Add(%v, %v) = %v, %v, want %v", l, w.a, got, e, w.e)
			}
		}
	}
}

func TestP20_2RemoveExamples(t *testing.T) {
	for _, c := range []struct {
		l    []api.Address
		a    api.Address
		want []api.Address
		e    api.Errno
	}{
		{list(A), A, nil, api.OK}, {list(A), B, list(A), api.ErrNotFound}, {nil, A, nil, api.ErrNotFound}, {list(), A, nil, api.ErrNotFound}, {list(A, B, C), A, list(B, C), api.OK}, {list(A, B, C), B, list(A, C), api.OK}, {list(A, B, C), C, list(A, B), api.OK}, {list(A, B, C), D, list(A, B, C), api.ErrNotFound},
		{list(A, B, A, C, A), A, list(B, C), api.OK}, {list(B, A, A, C), A, list(B, C), api.OK}, {list(A, A), A, nil, api.OK}, {list(B, A, B), A, list(B, B), api.OK},
		{list(C), D, list(C), api.ErrNotFound}, {list(A, R), S, list(A, R), api.ErrNotFound}, {list(R, A), R, list(A), api.OK}, {many(65), many(65)[64], many(64), api.OK}, {many(1000), many(1000)[999], many(999), api.OK}, {many(64), A, many(64), api.ErrNotFound},
		{list(A), api.Address{}, list(A), api.ErrNotFound}, {list(A, api.Address{}, B), api.Address{}, list(A, B), api.OK}, {list(A, wrong[1].a), wrong[1].a, list(A), api.OK}, {nil, wrong[1].a, nil, api.ErrNotFound},
	} {
		before := slices.Clone(c.l)
		if got, e := accept.Remove(c.l, c.a); e != c.e || !slices.Equal(got, c.want) {
			t.Errorf("Remove(%v, %v) = %v, %v, want %v, %v", c.l, c.a, got, e, c.want, c.e)
		}
		if !slices.Equal(c.l, before) {
			t.Errorf("the list became %v", c.l)
		}
	}
}

func TestP20_3HasExamples(t *testing.T) {
	a9, b9, a8, b0, c8 := api.Identity{Address: A, IRK: 9}, api.Identity{Address: B, IRK: 9}, api.Identity{Address: A, IRK: 8}, api.Identity{Address: B}, api.Identity{Address: C, IRK: 8}
	bad := wrong[9].a
	for _, c := range []struct {
		comment string
		l       []api.Address
		ids     []api.Identity
		a       api.Address
		want    bool
	}{
		{"an element", list(A), nil, A, true}, {"no element", list(A), nil, B, false}, {"the empty list", nil, nil, A, false}, {"the last element", list(B, C, A), nil, A, true}, {"the same number with another kind", list(C), nil, D, false},
		{"the example with the identity", list(A), ids(a9), R, true}, {"the example without it", list(A), nil, R, false}, {"another address of the key", list(A), ids(a9), S, true}, {"an address of another key", list(A), ids(a9), T, false}, {"a wrong hash", list(A), ids(a9), U, false}, {"another identity", list(A), ids(b9), R, false}, {"an identity of a list that is empty", nil, ids(a9), R, false},
		{"the second identity", list(A), ids(c8, a9), R, true}, {"the second element", list(B, A), ids(c8, a9), R, true}, {"the second identity, and the first on the list", list(C), ids(c8, a9), R, false}, {"the first identity that is found counts", list(B), ids(a9, b9), R, false}, {"also if both are on the list", list(B, A), ids(a9, b9), R, true}, {"and if the other order is given", list(B), ids(b9, a9), R, true}, {"the key of the first and the address of the second", list(A), ids(a8, b9), R, false},
		{"the address of an identity on the list", list(A), ids(a9), A, true}, {"the address of an identity not on the list", list(B), ids(a9), A, false}, {"another identity with the address and the key", list(B), ids(a9, b9), A, false}, {"a resolvable address as an element", list(R), ids(a9), R, true}, {"its identity instead", list(R), ids(a9), A, false}, {"another one of its identity", list(R), ids(a9), S, false}, {"an identity without a key", list(B), ids(b0), made(7, 1), false},
		{"a resolvable address of an identity", list(R), ids(api.Identity{Address: R, IRK: 9}), S, true}, {"a resolvable address of an identity of another key", list(T), ids(api.Identity{Address: T, IRK: 9}), R, true}, {"the address that belongs to an earlier identity", list(R), ids(a9, api.Identity{Address: R}), R, true}, {"the address of a later identity", list(A), ids(b9, api.Identity{Address: R}), R, false},
		{"an invalid element", list(bad), nil, bad, true}, {"an invalid address", list(A), ids(a9), bad, false}, {"an invalid address of an identity", list(A), ids(a9, api.Identity{Address: bad}), bad, false}, {"an identity with an invalid address on the list", list(bad), ids(api.Identity{Address: bad, IRK: 9}), R, true}, {"the zero address", list(A), ids(api.Identity{}), api.Address{}, false}, {"the zero address as an element", list(A, api.Address{}), nil, api.Address{}, true}, {"the zero address of an identity", list(api.Address{}), ids(api.Identity{IRK: 9}), R, true}, {"the zero identity", list(api.Address{}), ids(api.Identity{}), R, false},
	} {
		elements, identities := slices.Clone(c.l), slices.Clone(c.ids)
		if got := accept.Has(c.l, c.ids, c.a); got != c.want {
			t.Errorf("Has(%v, %v, %v), %s, = %t", c.l, c.ids, c.a, c.comment, got)
		}
		if !slices.Equal(c.l, elements) || !slices.Equal(c.ids, identities) {
			t.Errorf("%s: the arguments became %v and %v", c.comment, c.l, c.ids)
		}
	}
}

func TestP20_3HasFollowsTheDefinition(t *testing.T) {
	random := rand.New(rand.NewSource(1))
	found, resolved := 0, 0
	for range 50000 {
		l, identities, a := someList(random), someIdentities(random), someAddress(random)
		want := slices.Contains(l, a)
		if i := privacy.Find(identities, a); !want && i >= 0 && slices.Contains(l, identities[i].Address) {
			want = true
			resolved++
		}
		if got := accept.Has(l, identities, a); got != want {
			t.Fatalf("Has(%v, %v, %v) = %t", l, identities, a, got)
		}
		if want {
			found++
		}
	}
	if resolved < 1000 || found < 2*resolved || found > 40000 {
		t.Errorf("%d addresses were on the list, %d of them by their identities", found, resolved)
	}
}

// Whether a request is answered, by the policy: for every address, for those on the list, or for none.
const (
	never  = 0
	listed = 1
	always = 2
)

// answers are the policies and the requests for which the chapter permits anything.
var answers = []struct{ policy, request, whom int }{
	{api.PolicyAll, api.AdvScanRequest, always}, {api.PolicyConnect, api.AdvScanRequest, always}, {api.PolicyScan, api.AdvScanRequest, listed}, {api.PolicyBoth, api.AdvScanRequest, listed},
	{api.PolicyAll, api.AdvConnect, always}, {api.PolicyScan, api.AdvConnect, always}, {api.PolicyConnect, api.AdvConnect, listed}, {api.PolicyBoth, api.AdvConnect, listed},
}

// whom returns to whom a request is answered.
func whom(policy, request int) int {
	for _, c := range answers {
		if c.policy == policy && c.request == request {
			return c.whom
		}
	}
	return never
}

func TestP20_4AllowsExamples(t *testing.T) {
	identities := ids(api.Identity{Address: A, IRK: 9})
	for _, c := range answers {
		for _, l := range [][]api.Address{nil, list(A), list(B, A), list(B)} {
			for _, a := range []api.Address{A, B, R, T, {}, wrong[9].a} {
				on := slices.Contains(l, a) || a == R && slices.Contains(l, A)
				want := c.whom == always || c.whom == listed && on
				if got := accept.Allows(c.policy, c.request, l, identities, a); got != want {
					t.Errorf("Allows(%d, %d, %v, %v, %v) = %t", c.policy, c.request, l, identities, a, got)
				}
			}
		}
	}
	if !accept.Allows(api.PolicyScan, api.AdvConnect, nil, nil, B) || accept.Allows(api.PolicyScan, api.AdvScanRequest, nil, nil, B) {
		t.Error("PolicyScan with the empty list")
	}
}

func TestP20_4AllowsNoOtherRequestsAndPolicies(t *testing.T) {
	policies := append([]int{api.PolicyAll, api.PolicyScan, api.PolicyConnect, api.PolicyBoth, 4, 5, 6}, otherNumbers...)
	requests := append([]int{api.AdvConnectable, api.AdvDirected, api.AdvPlain, api.AdvScanRequest, api.AdvScanAnswer, api.AdvConnect, api.AdvScannable}, otherNumbers...)
	for _, policy := range policies {
		for _, request := range requests {
			for _, l := range [][]api.Address{nil, list(A)} {
				want := whom(policy, request)
				if got := accept.Allows(policy, request, l, nil, A); got != (want == always || want == listed && len(l) > 0) {
					t.Errorf("Allows(%d, %d, %v, nil, A) = %t", policy, request, l, got)
				}
			}
		}
	}
}

func TestP20_5Lists(t *testing.T) {
	random := rand.New(rand.NewSource(2))
	for range 200 {
		var l, model []api.Address
		for range 300 {
			a := someAddress(random)
			at := slices.Index(model, a)
			var e, want api.Errno
			if random.Intn(3) > 0 {
				l, e = accept.Add(l, a)
				switch {
				case address.Check(a) != api.OK:
					want = address.Check(a)
				case at >= 0:
					want = api.ErrExists
				case len(model) == api.MaxList:
					want = api.ErrFull
				default:
					model = append(model, a)
				}
				if e == api.OK && !accept.Has(l, nil, a) {
					t.Fatalf("%v, which was added, is not on the list %v", a, l)
				}
			} else {
				l, e = accept.Remove(l, a)
				if at < 0 {
					want = api.ErrNotFound
				} else {
					model = slices.Delete(model, at, at+1)
				}
				if accept.Has(l, nil, a) {
					t.Fatalf("%v, which was removed, is on the list %v", a, l)
				}
			}
			if e != want || !slices.Equal(l, model) {
				t.Fatalf("%v: the list is %v, %v, want %v, %v", a, l, e, model, want)
			}
			checkList(t, l)
		}
	}
}

func TestP20_5AListOfAllItsElements(t *testing.T) {
	var l []api.Address
	for _, a := range many(api.MaxList) {
		var e api.Errno
		if l, e = accept.Add(l, a); e != api.OK {
			t.Fatalf("%v was not added: %v", a, e)
		}
		checkList(t, l)
	}
	if got, e := accept.Add(l, A); e != api.ErrFull || !slices.Equal(got, l) {
		t.Errorf("Add to the full list = %v, %v", got, e)
	}
	l, _ = accept.Remove(l, l[7])
	if got, e := accept.Add(l, A); e != api.OK || len(got) != api.MaxList || got[63] != A {
		t.Errorf("Add after a removal = %v, %v", got, e)
	}
}

func TestP20_6Policies(t *testing.T) {
	random := rand.New(rand.NewSource(3))
	policies := []int{api.PolicyAll, api.PolicyScan, api.PolicyConnect, api.PolicyBoth}
	allowed := 0
	for range 20000 {
		l, identities, a := someList(random), someIdentities(random), someAddress(random)
		for _, request := range []int{api.AdvScanRequest, api.AdvConnect} {
			both, on := accept.Allows(api.PolicyBoth, request, l, identities, a), accept.Has(l, identities, a)
			if both {
				allowed++
			}
			for _, policy := range policies {
				if got := accept.Allows(policy, request, l, identities, a); !got && (both || on) {
					t.Fatalf("Allows(%d, %d, %v, %v, %v) = false", policy, request, l, identities, a)
				}
			}
		}
	}
	if allowed < 1000 {
		t.Errorf("only %d requests were allowed", allowed)
	}
}

func TestR5ResultsAreNewMemory(t *testing.T) {
	for _, c := range []struct {
		comment string
		do      func(l []api.Address) ([]api.Address, api.Errno)
		e       api.Errno
	}{
		{"added", func(l []api.Address) ([]api.Address, api.Errno) { return accept.Add(l, D) }, api.OK},
		{"added again", func(l []api.Address) ([]api.Address, api.Errno) { return accept.Add(l, B) }, api.ErrExists},
		{"added and not valid", func(l []api.Address) ([]api.Address, api.Errno) { return accept.Add(l, api.Address{}) }, api.ErrKind},
		{"removed", func(l []api.Address) ([]api.Address, api.Errno) { return accept.Remove(l, A) }, api.OK},
		{"the last one removed", func(l []api.Address) ([]api.Address, api.Errno) { return accept.Remove(l, C) }, api.OK},
		{"not found", func(l []api.Address) ([]api.Address, api.Errno) { return accept.Remove(l, D) }, api.ErrNotFound},
	} {
		memory := list(A, B, C, T, T)
		got, e := c.do(memory[:3])
		if e != c.e {
			t.Errorf("%s: %v, want %v", c.comment, e, c.e)
		}
		spoil(got)
		if !slices.Equal(memory, list(A, B, C, T, T)) {
			t.Errorf("%s: the memory of the list became %v", c.comment, memory)
		}
	}
	full := append(many(api.MaxList), T)
	got, _ := accept.Add(full[:api.MaxList], A)
	spoil(got)
	if !slices.Equal(full, append(many(api.MaxList), T)) {
		t.Errorf("the full list became %v", full)
	}
}

// spoil overwrites all memory of l.
func spoil(l []api.Address) {
	l = l[:cap(l)]
	for i := range l {
		l[i] = api.Address{Kind: 99}
	}
}

// checkList fails unless a list is valid.
func checkList(t *testing.T, l []api.Address) {
	t.Helper()
	if len(l) > api.MaxList {
		t.Fatalf("%v has %d elements", l, len(l))
	}
	for i, a := range l {
		if address.Check(a) != api.OK || slices.Contains(l[:i], a) {
			t.Fatalf("%v is not valid, or twice in %v", a, l)
		}
	}
}

// list and ids return their arguments, with memory of their own.
func list(l ...api.Address) []api.Address { return slices.Clone(l) }

func ids(l ...api.Identity) []api.Identity { return slices.Clone(l) }

// many returns n different public addresses.
func many(n int) []api.Address {
	var l []api.Address
	for i := range n {
		l = append(l, api.Address{Kind: api.AddrPublic, Bits: uint64(1000 + i)})
	}
	return l
}

// made returns a resolvable address of a key.
func made(irk api.Key, prand uint32) api.Address {
	a, e := privacy.Make(irk, prand)
	if e != api.OK {
		panic(e)
	}
	return a
}

// someAddress returns an address of a few; some are resolvable, and some are not valid.
func someAddress(random *rand.Rand) api.Address {
	switch random.Intn(10) {
	case 0:
		return wrong[random.Intn(len(wrong))].a
	case 1, 2, 3:
		return made(keys[1+random.Intn(3)], uint32(77+random.Intn(4)))
	case 4, 5:
		return list(A, B, C, D, U)[random.Intn(5)]
	}
	return many(70)[random.Intn(70)]
}

// someList returns a list of such addresses, not always a valid one.
func someList(random *rand.Rand) []api.Address {
	var l []api.Address
	for range random.Intn(40) {
		l = append(l, someAddress(random))
	}
	return l
}

// someIdentities returns identities with such addresses and few keys.
func someIdentities(random *rand.Rand) []api.Identity {
	var l []api.Identity
	for range random.Intn(8) {
		l = append(l, api.Identity{Address: someAddress(random), IRK: keys[random.Intn(len(keys))]})
	}
	return l
}
