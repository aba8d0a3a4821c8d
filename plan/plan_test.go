package plan_test

import (
	"math"
	"math/rand"
	"testing"

	"muleteer/api"
	"muleteer/conf"
	"muleteer/packet"
	"muleteer/plan"
	"muleteer/trace"
	"muleteer/world"
)

// scene is a world, and what is done to it: the channel 0 is unordered, 1 is ordered.
type scene struct {
	t *testing.T
	w *world.World
}

func open(t *testing.T) scene {
	t.Helper()
	c := conf.Plain(2, 1)
	c.Block, c.Pool = 16, 32
	w, e := world.New(c)
	if e != api.OK {
		t.Fatalf("New: %v", e)
	}
	return scene{t, w}
}

// send sends a packet and tells it as it was sent.
func (s scene) send(channel, from int, timeout uint64) api.Packet {
	s.t.Helper()
	if e := s.w.Send(api.Packet{Chan: channel, From: from, Timeout: timeout, Data: "x"}); e != nil {
		s.t.Fatalf("Send: %v", e)
	}
	s.w.Tick(from)
	l := s.w.Ledger(from).Events()
	return l[len(l)-1].Packet
}

// submit submits what is planned for a packet.
func (s scene) submit(m api.Msg, to int) {
	s.t.Helper()
	n, _ := s.w.Ledger(to).Expected(1)
	if e := s.w.Submit(api.Tx{Side: to, Account: 1, Nonce: n, Msgs: []api.Msg{m}}); e != nil {
		s.t.Fatalf("Submit(%v): %v", m, e)
	}
}

// do does a message, which has to do something.
func (s scene) do(m api.Msg, to int) {
	s.t.Helper()
	s.submit(m, to)
	if l, _ := s.w.Tick(to); l[len(l)-1].Codes[0] != api.OK {
		s.t.Fatalf("%v: %v", m, l)
	}
}

func (s scene) want(p api.Packet, what int, m api.Msg) {
	s.t.Helper()
	if w, got := plan.For(s.w, packet.Key(p)); w != what || got != m {
		s.t.Errorf("%s: %d, %v, not %d, %v", packet.Name(packet.Key(p)), w, got, what, m)
	}
}

func recv(p api.Packet) api.Msg    { return api.Msg{Kind: api.MsgRecv, Packet: p} }
func ack(p api.Packet) api.Msg     { return api.Msg{Kind: api.MsgAck, Packet: p, Ack: packet.Ack(p)} }
func timeout(p api.Packet) api.Msg { return api.Msg{Kind: api.MsgTimeout, Packet: p} }

func TestNumbers(t *testing.T) {
	if plan.Wait != 0 || plan.Send != 1 || plan.Done != 2 {
		t.Errorf("%d, %d, %d", plan.Wait, plan.Send, plan.Done)
	}
}

func TestNothingToBeDone(t *testing.T) {
	s := open(t)
	s.send(0, 0, 0)
	for _, k := range []api.Key{{}, {Seq: 2}, {From: 1, Seq: 1}, {Chan: 1, Seq: 1}, {Chan: 2, Seq: 1}, {Chan: -1, Seq: 1}, {From: -1, Seq: 1}, {From: 2, Seq: 1}, {From: math.MinInt, Seq: 1}, {From: math.MaxInt, Seq: 1}} {
		if what, m := plan.For(s.w, k); what != plan.Done || m != (api.Msg{}) || plan.Expected(s.w, k) != 0 {
			t.Errorf("%v: %d, %v", k, what, m)
		}
	}
	if what, m := plan.For(nil, api.Key{Seq: 1}); what != plan.Done || m != (api.Msg{}) || plan.Expected(nil, api.Key{Seq: 1}) != 0 {
		t.Errorf("no world: %d, %v", what, m)
	}
}

func TestAnUnorderedPacket(t *testing.T) {
	for from := range 2 {
		s := open(t)
		p, q := s.send(0, from, 0), s.send(0, from, 0)
		s.want(q, plan.Send, recv(q))
		s.want(p, plan.Send, recv(p))
		s.submit(recv(p), 1-from)
		s.want(p, plan.Wait, api.Msg{})
		s.want(q, plan.Send, recv(q))
		s.w.Tick(1 - from)
		s.want(p, plan.Send, ack(p))
		s.do(recv(q), 1-from)
		s.want(q, plan.Send, ack(q))
		s.submit(ack(p), from)
		s.want(p, plan.Wait, api.Msg{})
		s.w.Tick(from)
		s.want(p, plan.Done, api.Msg{})
		s.do(ack(q), from)
		s.want(q, plan.Done, api.Msg{})
	}
}

func TestALatePacket(t *testing.T) {
	s := open(t)
	p, q := s.send(0, 0, 3), s.send(0, 0, 3)
	s.want(p, plan.Send, recv(p))
	s.w.Tick(1)
	s.want(p, plan.Send, recv(p)) // It can be received in the block 2.
	s.do(recv(q), 1)
	s.want(p, plan.Wait, api.Msg{}) // In the block 3 it would be late.
	s.want(q, plan.Send, ack(q))
	s.w.Tick(1)
	s.want(p, plan.Send, timeout(p))
	s.want(q, plan.Send, ack(q))
	s.submit(timeout(p), 0)
	s.want(p, plan.Wait, api.Msg{})
	s.w.Tick(0)
	s.want(p, plan.Done, api.Msg{})
}

func TestAnOrderedChannel(t *testing.T) {
	s := open(t)
	a, b, c := s.send(1, 0, 0), s.send(1, 0, 0), s.send(1, 0, 4)
	s.want(a, plan.Send, recv(a))
	s.want(b, plan.Wait, api.Msg{})
	s.do(recv(a), 1)
	s.want(b, plan.Send, recv(b))
	s.do(recv(b), 1)
	s.want(a, plan.Send, ack(a))
	s.want(b, plan.Wait, api.Msg{})
	s.want(c, plan.Send, recv(c))
	s.do(ack(a), 0)
	s.want(b, plan.Send, ack(b))
	s.w.Tick(1)
	s.want(c, plan.Wait, api.Msg{})
	s.w.Tick(1)
	s.want(c, plan.Send, timeout(c))
	s.do(timeout(c), 0)
	// The source's end is closed: nothing is to be done for what has a commitment still.
	s.want(b, plan.Done, api.Msg{})
	s.want(c, plan.Done, api.Msg{})
}

func TestALatePacketOutOfTurn(t *testing.T) {
	s := open(t)
	a, b := s.send(1, 0, 0), s.send(1, 0, 1)
	s.want(b, plan.Wait, api.Msg{})
	s.w.Tick(1)
	s.want(a, plan.Send, recv(a))
	s.want(b, plan.Send, timeout(b))
}

func TestTheDestinationsEndIsClosed(t *testing.T) {
	s := open(t)
	// A packet the other way closes the end of the ledger 1.
	p := s.send(1, 1, 1)
	a, b := s.send(1, 0, 0), s.send(1, 0, 5)
	s.w.Tick(0)
	s.do(timeout(p), 1)
	s.want(p, plan.Done, api.Msg{})
	s.want(a, plan.Done, api.Msg{})
	s.want(b, plan.Done, api.Msg{})
	for s.w.Ledger(1).Height() < 5 {
		s.w.Tick(1)
	}
	s.want(a, plan.Done, api.Msg{})
	s.want(b, plan.Send, timeout(b))
}

func TestWhatWasReceivedAheadOfTheEndIsAcknowledged(t *testing.T) {
	s := open(t)
	a := s.send(1, 0, 0)
	p := s.send(1, 1, 3)
	s.do(recv(a), 1)
	for s.w.Ledger(0).Height() < 3 {
		s.w.Tick(0)
	}
	s.do(timeout(p), 1)
	s.want(a, plan.Send, ack(a))
}

func TestExpected(t *testing.T) {
	s := open(t)
	p, q, r := s.send(0, 0, 3), s.send(0, 0, 0), s.send(0, 0, api.Top)
	far, near := s.send(0, 0, 1<<31+1), s.send(0, 0, 1<<31-1)
	want := func(p api.Packet, n int) {
		t.Helper()
		if got := plan.Expected(s.w, packet.Key(p)); got != n {
			t.Errorf("%d: %d, not %d", p.Seq, got, n)
		}
	}
	for i := range 5 {
		want(p, max(0, 3-i))
		want(q, api.None)
		want(r, 1<<31-1)
		want(near, 1<<31-1-i)
		want(far, min(1<<31-1, 1<<31+1-i))
		s.w.Tick(1)
	}
	back := s.send(0, 1, 9)
	for i := range 3 {
		want(back, 9-int(s.w.Ledger(0).Height()))
		if s.w.Tick(0); i == 2 && s.w.Ledger(0).Height() == s.w.Ledger(1).Height() {
			t.Errorf("both ledgers are at one height")
		}
	}
	s.do(recv(q), 1)
	want(q, api.None)
	s.do(ack(q), 0)
	want(q, 0)
	s.do(timeout(p), 0)
	want(p, 0)
}

// TestNoneIsToldInVain: if nothing waits there, what is told does something in the next block.
func TestNoneIsToldInVain(t *testing.T) {
	told := map[int]int{}
	for seed := range 20 {
		r := rand.New(rand.NewSource(int64(seed)))
		s := open(t)
		for range 150 {
			side := r.Intn(2)
			if r.Intn(3) == 0 {
				s.w.Send(api.Packet{Chan: r.Intn(2), From: side, Timeout: uint64(r.Intn(2)) * (s.w.Ledger(1-side).Height() + uint64(r.Intn(9)))})
			}
			s.w.Tick(side)
			l := trace.Open(s.w.Marks())
			if len(l) == 0 {
				continue
			}
			k := l[r.Intn(min(4, len(l)))]
			what, m := plan.For(s.w, k)
			if what != plan.Send {
				continue
			}
			to := k.From
			if m.Kind == api.MsgRecv {
				to = 1 - to
			}
			if s.w.Ledger(to).Waiting() == 0 {
				s.do(m, to)
				told[m.Kind]++
			}
		}
	}
	if told[api.MsgRecv] == 0 || told[api.MsgAck] == 0 || told[api.MsgTimeout] == 0 {
		t.Errorf("%v", told)
	}
}
