package link

import (
	"wireless/api"
	"wireless/arq"
	"wireless/assess"
	"wireless/datapdu"
	"wireless/encrypt"
	"wireless/procedure"
)

// Do returns the side after a request of its upper layers: ErrState if it does not exist, and the errors of the request; ErrKind if there is no such request.
func Do(l api.Link, a api.Act, now int) (api.Link, api.Errno) {
	x := during(l)
	e := x.do(a, now)
	return x.Link, e
}

// do carries out a request; if it returns an error, it has changed nothing.
func (x *side) do(a api.Act, now int) api.Errno {
	if !x.exists() {
		return api.ErrState
	}
	switch a.Kind {
	case api.ActSend:
		return x.queue(a.Packet)
	case api.ActEncrypt:
		return x.encrypt(a, now)
	case api.ActKey:
		return x.answer(a.Key)
	case api.ActAssess:
		return x.assess(now)
	}
	c, ok := request(a)
	if !ok {
		return api.ErrKind
	}
	return x.start(c, now)
}

// request returns the control PDU by which the procedure of an act begins, and whether it is such an act.
func request(a api.Act) (api.Control, bool) {
	number := int(min(a.Number, maxNumber))
	switch a.Kind {
	case api.ActUpdate:
		return api.Control{Kind: api.CtlUpdate, Update: a.Update}, true
	case api.ActMap:
		return api.Control{Kind: api.CtlMap, Map: a.Map}, true
	case api.ActTerminate:
		return api.Control{Kind: api.CtlTerminate, Reason: number}, true
	case api.ActFeatures:
		return api.Control{Kind: api.CtlFeatures, Features: features}, true
	case api.ActVersion:
		return api.Control{Kind: api.CtlVersion, Version: version}, true
	case api.ActPing:
		return api.Control{Kind: api.CtlPing}, true
	case api.ActLength:
		return api.Control{Kind: api.CtlLength, Length: number}, true
	case api.ActParams:
		return api.Control{Kind: api.CtlParams, Update: a.Update}, true
	}
	return api.Control{}, false
}

// start begins a procedure, or lets its request wait.
func (x *side) start(c api.Control, now int) api.Errno {
	procs, queue, e := procedure.Start(x.Procs, c, x.planning(), now)
	if e != api.OK {
		return e
	}
	x.Procs = procs
	x.wait(queue...)
	return api.OK
}

// queue queues a packet of the upper layers.
func (x *side) queue(p api.Packet) api.Errno {
	if p.LLID != api.LLStart && p.LLID != api.LLContinue {
		return api.ErrInvalid
	}
	if e := datapdu.Check(api.DataPDU{Packet: p}); e != api.OK {
		return e
	}
	switch {
	case len(p.Payload) > x.Procs.Length:
		return api.ErrTooLong
	case procedure.Quiet(x.Procs):
		return api.ErrBusy
	}
	a, e := arq.Queue(x.Arq, p)
	if e != api.OK {
		return e
	}
	x.Arq = a
	return api.OK
}

// encrypt asks for encryption with a long-term key.
func (x *side) encrypt(a api.Act, now int) api.Errno {
	if a.Key == 0 {
		return api.ErrKey
	}
	if e := x.start(api.Control{Kind: api.CtlEncrypt, Mark: a.Number, Salt: x.Seed}, now); e != api.OK {
		return e
	}
	x.Key = a.Key
	return api.OK
}

// answer tells the long-term key for which the other side asked, or that there is none. What the other side sends from now on is encrypted.
func (x *side) answer(k api.Key) api.Errno {
	if !x.isPeripheral() || x.Procs.Crypt != api.CryptAsked {
		return api.ErrState
	}
	found := k != 0
	procs, queue := procedure.Answer(x.Procs, found, x.Seed)
	x.Procs = procs
	x.wait(queue...)
	if found {
		x.Key = k
		x.Session = encrypt.Turn(encrypt.New(x.Role, k, x.Procs.Peer, x.Procs.Salt), false, true)
	}
	return api.OK
}

// assess asks for a map without the bad channels, if there are any. Older packets then count half.
func (x *side) assess(now int) api.Errno {
	if x.isPeripheral() {
		return api.ErrState
	}
	m := assess.Propose(x.Tallies, x.Params.Map, leastKept)
	if m == x.Params.Map {
		return api.OK
	}
	if e := x.start(api.Control{Kind: api.CtlMap, Map: m}, now); e != api.OK {
		return e
	}
	x.Tallies = assess.Decay(x.Tallies)
	return api.OK
}
