package link

import (
	"wireless/api"
	"wireless/arq"
	"wireless/crc"
	"wireless/ctrlpdu"
	"wireless/datapdu"
	"wireless/encrypt"
	"wireless/procedure"
	"wireless/whiten"
)

// Send returns the bytes that the side sends on the air.
func Send(l api.Link) (api.Link, []byte) {
	x := during(l)
	if !x.exists() {
		return x.Link, nil
	}
	x.move()
	var p api.DataPDU
	x.Arq, p = arq.Send(x.Arq)
	x.More = p.MD == 1
	return x.Link, x.write(p)
}

// move moves the control PDUs that wait into the queue, as far as there is room. While encryption is being started, only those that are needed for it are moved.
func (x *side) move() {
	quiet := procedure.Quiet(x.Procs)
	var left []api.Control
	for i, c := range x.Commands {
		if quiet && !startsEncryption(c.Kind) {
			left = append(left, c)
			continue
		}
		if !x.enqueue(c) {
			left = append(left, x.Commands[i:]...)
			break
		}
	}
	x.Commands = left
}

// startsEncryption reports whether control PDUs of a kind can be needed to start encryption or to refuse it.
func startsEncryption(kind int) bool {
	switch kind {
	case api.CtlEncrypt, api.CtlEncAnswer, api.CtlStart, api.CtlStartAnswer, api.CtlReject:
		return true
	}
	return false
}

// enqueue moves a control PDU into the queue, and reports whether there was room. One that has no bytes is dropped.
func (x *side) enqueue(c api.Control) bool {
	b, e := ctrlpdu.Encode(c)
	if e != api.OK {
		return true
	}
	a, e := arq.Queue(x.Arq, api.Packet{LLID: api.LLControl, Payload: b})
	x.Arq = a
	return e != api.ErrFull
}

// write returns the bytes of a PDU on the air.
func (x *side) write(p api.DataPDU) []byte {
	p, e := encrypt.Seal(x.Session, p)
	if e != api.OK {
		return nil
	}
	b, e := datapdu.Encode(p)
	if e != api.OK {
		return nil
	}
	return whiten.Apply(Channel(x.Link), crc.Append(x.Params.Init, b))
}

// Receive returns the side after bytes arrived that began at a local time; first tells whether they are the first ones of the event.
func Receive(l api.Link, b []byte, first bool, began int) (api.Link, []api.Indication, bool) {
	x := during(l)
	goesOn := x.exists() && x.receive(b, first, began)
	return x.Link, x.reports, goesOn
}

// receive processes bytes that arrived, and reports whether the event goes on.
func (x *side) receive(b []byte, first bool, began int) bool {
	x.Got = true
	if first && x.isPeripheral() {
		x.Anchor, x.Sync, x.Size = began, began, 0
	}
	p, ok := x.read(b)
	if !ok {
		return false
	}
	x.record(true)
	x.Good, x.Begun, x.Heard = true, true, began
	p, ok = x.open(p)
	if !ok {
		x.finish(api.ReasonIntegrity)
		return false
	}
	x.take(p, began)
	return p.MD == 1 || x.More
}

// read returns the PDU of bytes on the air, and whether they are those of one.
func (x *side) read(b []byte) (api.DataPDU, bool) {
	body, e := crc.Check(x.Params.Init, whiten.Apply(Channel(x.Link), b))
	if e != api.OK {
		x.record(false)
		return api.DataPDU{}, false
	}
	p, e := datapdu.Decode(body)
	return p, e == api.OK
}

// open returns a PDU as the other side meant it, and whether it is authentic. A repetition is left as it is, because the numbers of the session are those of the next packet.
func (x *side) open(p api.DataPDU) (api.DataPDU, bool) {
	if p.SN != x.Arq.NESN || datapdu.Blank(p.Packet) || !x.Session.RxOn {
		return p, true
	}
	p, e := encrypt.Open(x.Session, p)
	return p, e == api.OK
}

// take processes a PDU, what it acknowledges and what it carries.
func (x *side) take(p api.DataPDU, began int) {
	unacked := x.unacked()
	a, got, fresh, acked := arq.Take(x.Arq, p)
	x.Arq = a
	if acked {
		x.acknowledged(unacked)
	}
	if fresh {
		x.Session = encrypt.Next(x.Session, false, true)
		x.deliver(got, began)
	}
}

// unacked returns the packet that the other side may acknowledge, which is an empty one if none is in the queue.
func (x *side) unacked() api.Packet {
	if !x.Arq.Open || x.Arq.Empty || arq.Idle(x.Arq) {
		return api.Packet{LLID: api.LLContinue}
	}
	return x.Arq.Queue[0]
}

// acknowledged processes the acknowledgement of a packet.
func (x *side) acknowledged(p api.Packet) {
	x.Acked = true
	if datapdu.Blank(p) {
		return
	}
	x.Session = encrypt.Next(x.Session, true, false)
	if p.LLID != api.LLControl {
		return
	}
	c, e := ctrlpdu.Decode(p.Payload)
	if e != api.OK {
		return
	}
	procs, reports := procedure.Sent(x.Procs, c)
	x.Procs = procs
	x.report(reports...)
	if c.Kind == api.CtlStart {
		x.Session = encrypt.Turn(x.Session, true, x.Session.RxOn)
	}
}

// deliver processes a fresh packet.
func (x *side) deliver(p api.Packet, began int) {
	if p.LLID != api.LLControl {
		x.report(api.Indication{Kind: api.IndPacket, Packet: p})
		return
	}
	c, e := ctrlpdu.Decode(p.Payload)
	switch e {
	case api.OK:
		x.handle(c, began)
	case api.ErrKind:
		x.wait(api.Control{Kind: api.CtlUnknown, Rejected: int(p.Payload[0])})
	}
}

// handle handles a control PDU. When the central learns that encryption starts, it knows both halves of the diversifier.
func (x *side) handle(c api.Control, began int) {
	procs, queue, reports := procedure.Handle(x.Procs, c, x.Event, began)
	x.Procs = procs
	x.wait(queue...)
	x.report(reports...)
	if !x.isPeripheral() && c.Kind == api.CtlStart && x.Procs.Crypt == api.CryptStarted {
		x.Session = encrypt.Turn(encrypt.New(x.Role, x.Key, x.Procs.Salt, x.Procs.Peer), true, true)
	}
}
