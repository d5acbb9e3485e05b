package link_test

import (
	"bytes"
	"slices"

	"wireless/api"
	"wireless/arq"
	"wireless/assess"
	"wireless/connect"
	"wireless/crc"
	"wireless/ctrlpdu"
	"wireless/datapdu"
	"wireless/encrypt"
	"wireless/hop"
	"wireless/latency"
	"wireless/procedure"
	"wireless/whiten"
)

// A model is a side that follows the definitions of the chapter sentence by sentence. The tests compare the layer with it.
type model struct {
	l    api.Link
	told []api.Indication
}

func newModel(l api.Link) *model {
	return &model{l: whole(l)}
}

// whole returns a copy of a side with all its lists.
func whole(l api.Link) api.Link {
	l.Arq.Queue = slices.Clone(l.Arq.Queue)
	for i, p := range l.Arq.Queue {
		l.Arq.Queue[i].Payload = bytes.Clone(p.Payload)
	}
	l.Procs.Waiting, l.Procs.Pending = slices.Clone(l.Procs.Waiting), slices.Clone(l.Procs.Pending)
	l.Tallies, l.Commands = slices.Clone(l.Tallies), slices.Clone(l.Commands)
	return l
}

func (m *model) tell(l ...api.Indication) {
	for _, i := range l {
		i.Event = m.l.Event
		m.told = append(m.told, i)
	}
}

func (m *model) ends(reason int) {
	m.l.Reason = reason
	m.tell(api.Indication{Kind: api.IndEnded, Number: uint64(reason)})
}

func modelChannel(l api.Link) int {
	channel, _ := hop.Next(l.Params, l.Event, l.Last)
	return channel
}

// modelWindow returns the window, with the widening of layer 11 computed anew.
func modelWindow(l api.Link) api.Window {
	if l.Role == api.Central {
		return api.Window{Start: l.Anchor, End: l.Anchor}
	}
	ppm := min(max(l.Params.PPM+l.Clock, 0), 1000)
	span := min(max(l.Anchor+l.Size-l.Sync, 0), api.MaxTime)
	w := (span*ppm+999999)/1000000 + 32
	return api.Window{Start: l.Anchor - w, End: l.Anchor + l.Size + w}
}

func modelSkips(l api.Link) bool {
	must := l.Listen.Full || len(l.Arq.Queue) > 0 || l.Listen.Skipped >= l.Listen.Latency
	return l.Reason == 0 && l.Role == api.Peripheral && l.Begun && len(l.Commands) == 0 && len(l.Procs.Pending) == 0 && !must
}

func quiet(l api.Link) bool {
	return l.Procs.Crypt >= api.CryptAsked && l.Procs.Crypt <= api.CryptStarted
}

func planning(l api.Link) uint16 {
	return uint16(int(l.Event) + l.Params.Update.Latency)
}

// begins starts a procedure.
func (m *model) begins(c api.Control, now int) api.Errno {
	s, queue, e := procedure.Start(m.l.Procs, c, planning(m.l), now)
	if e == api.OK {
		m.l.Procs = s
		m.l.Commands = slices.Concat(m.l.Commands, queue)
	}
	return e
}

func (m *model) do(a api.Act, now int) api.Errno {
	if m.l.Reason != 0 {
		return api.ErrState
	}
	n := int(1<<31 - 1)
	if a.Number < 1<<31 {
		n = int(a.Number)
	}
	switch a.Kind {
	case 1:
		return m.doSend(a.Packet)
	case 2:
		return m.begins(api.Control{Kind: api.CtlUpdate, Update: a.Update}, now)
	case 3:
		return m.begins(api.Control{Kind: api.CtlMap, Map: a.Map}, now)
	case 4:
		return m.begins(api.Control{Kind: api.CtlTerminate, Reason: n}, now)
	case 5:
		if a.Key == 0 {
			return api.ErrKey
		}
		e := m.begins(api.Control{Kind: api.CtlEncrypt, Mark: a.Number, Salt: m.l.Seed}, now)
		if e == api.OK {
			m.l.Key = a.Key
		}
		return e
	case 6:
		return m.begins(api.Control{Kind: api.CtlFeatures, Features: 63}, now)
	case 7:
		return m.begins(api.Control{Kind: api.CtlVersion, Version: 11}, now)
	case 8:
		return m.begins(api.Control{Kind: api.CtlPing}, now)
	case 9:
		return m.begins(api.Control{Kind: api.CtlLength, Length: n}, now)
	case 10:
		return m.doKey(a.Key)
	case 12:
		return m.begins(api.Control{Kind: api.CtlParams, Update: a.Update}, now)
	case 13:
		return m.doAssess(now)
	}
	return api.ErrKind
}

func (m *model) doSend(p api.Packet) api.Errno {
	if p.LLID != 1 && p.LLID != 2 {
		return api.ErrInvalid
	}
	if e := datapdu.Check(api.DataPDU{Packet: p}); e != api.OK {
		return e
	}
	if len(p.Payload) > m.l.Procs.Length {
		return api.ErrTooLong
	}
	if quiet(m.l) {
		return api.ErrBusy
	}
	a, e := arq.Queue(m.l.Arq, p)
	m.l.Arq = a
	return e
}

func (m *model) doKey(k api.Key) api.Errno {
	if m.l.Role != api.Peripheral || m.l.Procs.Crypt != api.CryptAsked {
		return api.ErrState
	}
	s, queue := procedure.Answer(m.l.Procs, k != 0, m.l.Seed)
	m.l.Procs = s
	m.l.Commands = slices.Concat(m.l.Commands, queue)
	if k != 0 {
		m.l.Key = k
		m.l.Session = encrypt.New(api.Peripheral, k, s.Peer, s.Salt)
		m.l.Session.RxOn = true
	}
	return api.OK
}

func (m *model) doAssess(now int) api.Errno {
	if m.l.Role != api.Central {
		return api.ErrState
	}
	proposal := assess.Propose(m.l.Tallies, m.l.Params.Map, 2)
	if proposal == m.l.Params.Map {
		return api.OK
	}
	e := m.begins(api.Control{Kind: api.CtlMap, Map: proposal}, now)
	if e == api.OK {
		m.l.Tallies = assess.Decay(m.l.Tallies)
	}
	return e
}

func (m *model) send() []byte {
	if m.l.Reason != 0 {
		return nil
	}
	var stay []api.Control
	for _, c := range m.l.Commands {
		needed := slices.Contains([]int{api.CtlEncrypt, api.CtlEncAnswer, api.CtlStart, api.CtlStartAnswer, api.CtlReject}, c.Kind)
		if quiet(m.l) && !needed || len(m.l.Arq.Queue) == api.MaxQueue {
			stay = append(stay, c)
			continue
		}
		b, _ := ctrlpdu.Encode(c)
		m.l.Arq.Queue = append(m.l.Arq.Queue, api.Packet{LLID: api.LLControl, Payload: b})
	}
	m.l.Commands = stay
	a, p := arq.Send(m.l.Arq)
	m.l.Arq, m.l.More = a, p.MD == 1
	if m.l.Session.TxOn {
		p, _ = encrypt.Seal(m.l.Session, p)
	}
	return onAir(m.l, p)
}

// onAir returns the bytes of a PDU on the air, for the current event of a side.
func onAir(l api.Link, p api.DataPDU) []byte {
	b, _ := datapdu.Encode(p)
	return onAirBytes(l, b)
}

// onAirBytes returns bytes on the air that need not be those of a PDU.
func onAirBytes(l api.Link, b []byte) []byte {
	return whiten.Apply(modelChannel(l), crc.Append(l.Params.Init, b))
}

func (m *model) receive(b []byte, first bool, began int) bool {
	if m.l.Reason != 0 {
		return false
	}
	// 1.
	m.l.Got = true
	if first && m.l.Role == api.Peripheral {
		m.l.Anchor, m.l.Sync, m.l.Size = began, began, 0
	}
	// 2.
	plain, e := crc.Check(m.l.Params.Init, whiten.Apply(modelChannel(m.l), b))
	if e != api.OK {
		m.l.Tallies = assess.Record(m.l.Tallies, modelChannel(m.l), false)
		return false
	}
	p, e := datapdu.Decode(plain)
	if e != api.OK {
		return false
	}
	// 3.
	m.l.Tallies = assess.Record(m.l.Tallies, modelChannel(m.l), true)
	m.l.Good, m.l.Begun, m.l.Heard = true, true, began
	// 4.
	rxOn := m.l.Session.RxOn
	if p.SN == m.l.Arq.NESN && !datapdu.Blank(p.Packet) && rxOn {
		if p, e = encrypt.Open(m.l.Session, p); e != api.OK {
			m.ends(api.ReasonIntegrity)
			return false
		}
	}
	// 5.
	var open api.Packet
	if m.l.Arq.Open && !m.l.Arq.Empty {
		open = m.l.Arq.Queue[0]
	}
	a, got, fresh, acked := arq.Take(m.l.Arq, p)
	m.l.Arq = a
	if acked {
		m.acknowledged(open)
	}
	// 6.
	if fresh && rxOn {
		m.l.Session.Rx++
	}
	if fresh {
		m.takes(got, began)
	}
	// 7.
	return p.MD == 1 || m.l.More
}

func (m *model) acknowledged(p api.Packet) {
	m.l.Acked = true
	if len(p.Payload) == 0 {
		return
	}
	if m.l.Session.TxOn {
		m.l.Session.Tx++
	}
	if p.LLID != api.LLControl {
		return
	}
	c, _ := ctrlpdu.Decode(p.Payload)
	s, told := procedure.Sent(m.l.Procs, c)
	m.l.Procs = s
	m.tell(told...)
	if c.Kind == api.CtlStart {
		m.l.Session.TxOn = true
	}
}

func (m *model) takes(p api.Packet, began int) {
	if p.LLID != api.LLControl {
		m.tell(api.Indication{Kind: api.IndPacket, Packet: p})
		return
	}
	c, e := ctrlpdu.Decode(p.Payload)
	if e == api.ErrKind {
		m.l.Commands = append(m.l.Commands, api.Control{Kind: api.CtlUnknown, Rejected: int(p.Payload[0])})
	}
	if e != api.OK {
		return
	}
	s, queue, told := procedure.Handle(m.l.Procs, c, m.l.Event, began)
	m.l.Procs = s
	m.l.Commands = slices.Concat(m.l.Commands, queue)
	m.tell(told...)
	if m.l.Role == api.Central && c.Kind == api.CtlStart && s.Crypt == api.CryptStarted {
		m.l.Session = encrypt.New(api.Central, m.l.Key, s.Salt, s.Peer)
		m.l.Session.TxOn, m.l.Session.RxOn = true, true
	}
}

func (m *model) close(now int) {
	if m.l.Reason != 0 {
		return
	}
	// 1.
	skipped := false
	if m.l.Role == api.Peripheral {
		if !m.l.Got && modelSkips(m.l) {
			skipped = true
			m.l.Listen.Skipped++
		} else {
			m.l.Listen = latency.Attend(m.l.Listen, m.l.Acked)
		}
	}
	// 2.
	if !m.l.Good && !skipped {
		m.l.Tallies = assess.Record(m.l.Tallies, modelChannel(m.l), false)
	}
	// 3.
	_, m.l.Last = hop.Next(m.l.Params, m.l.Event, m.l.Last)
	m.l.Event++
	m.l.Anchor += m.l.Params.Update.Interval * 1250
	m.l.Got, m.l.Good, m.l.Acked, m.l.More = false, false, false, false
	// 4.
	s, due := procedure.Due(m.l.Procs, m.l.Event)
	m.l.Procs = s
	for _, c := range due {
		m.changes(c)
	}
	// 5.
	s, queue := procedure.Ready(m.l.Procs, planning(m.l), now)
	m.l.Procs = s
	m.l.Commands = slices.Concat(m.l.Commands, queue)
	// 6.
	switch u := m.l.Params.Update; {
	case m.l.Procs.Ended != 0:
		m.ends(m.l.Procs.Ended)
	case procedure.Expired(m.l.Procs, now):
		m.ends(api.ReasonResponse)
	case m.l.Begun && now-m.l.Heard > connect.Timeout(u):
		m.ends(api.ReasonTimeout)
	case !m.l.Begun && now-m.l.Heard > 6*u.Interval*1250:
		m.ends(api.ReasonEstablish)
	}
}

func (m *model) changes(c api.Change) {
	if c.Kind == api.CtlMap {
		m.l.Params.Map = c.Map
	}
	if c.Kind == api.CtlUpdate {
		m.l.Params.Update = c.Update
		m.l.Anchor += c.Update.WinOffset * 1250
		if m.l.Role == api.Peripheral {
			m.l.Size += c.Update.WinSize * 1250
		}
		m.l.Listen = latency.Set(m.l.Listen, c.Update.Latency)
	}
	m.tell(api.Indication{Kind: api.IndChange, Change: c})
}
