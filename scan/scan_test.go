package scan_test

import (
	"math"
	"slices"
	"testing"

	"muleteer/api"
	"muleteer/conf"
	"muleteer/packet"
	"muleteer/scan"
	"muleteer/world"
)

func made(t *testing.T, n int) *scan.Scan {
	t.Helper()
	s, e := scan.New(n)
	if e != api.OK || s == nil {
		t.Fatalf("New(%d): %v", n, e)
	}
	return s
}

// busy is a world in which packets were sent in all directions of two channels.
func busy(t *testing.T) *world.World {
	t.Helper()
	c := conf.Plain(2, 1)
	c.Block = 16
	w, _ := world.New(c)
	for side := range 2 {
		for i := range 6 {
			if e := w.Send(api.Packet{Chan: i % 2, From: side, Timeout: 9, Data: "x"}); e != nil {
				t.Fatalf("Send: %v", e)
			}
		}
	}
	w.Tick(0)
	w.Tick(1)
	return w
}

// do does one message on a ledger.
func do(t *testing.T, w *world.World, side int, m api.Msg) {
	t.Helper()
	n, _ := w.Ledger(side).Expected(1)
	if e := w.Submit(api.Tx{Side: side, Account: 1, Nonce: n, Msgs: []api.Msg{m}}); e != nil {
		t.Fatalf("Submit: %v", e)
	}
	if l, _ := w.Tick(side); len(l) != 1 || l[0].Codes[0] != api.OK {
		t.Fatalf("%v", l)
	}
}

func TestNew(t *testing.T) {
	for n := range 8 {
		if s := made(t, n); s.Place() != 0 {
			t.Errorf("%d: %d", n, s.Place())
		}
	}
	for _, n := range []int{-1, 8, math.MinInt, math.MaxInt} {
		if s, e := scan.New(n); s != nil || e != api.ErrArg {
			t.Errorf("%d: %v", n, e)
		}
	}
}

func TestNothing(t *testing.T) {
	w, _ := world.New(conf.Plain(2, 1))
	s := made(t, 0)
	for _, x := range []*world.World{w, nil} {
		if k, found, more := s.Look(x); k != (api.Key{}) || found || more || s.Place() != 0 {
			t.Errorf("%v, %v, %v", k, found, more)
		}
	}
	var none *scan.Scan
	none.Next()
	none.Reset()
	if k, found, more := none.Look(busy(t)); k != (api.Key{}) || found || more || none.Place() != 0 {
		t.Errorf("a scan that nobody made: %v, %v, %v", k, found, more)
	}
}

func TestLook(t *testing.T) {
	w := busy(t)
	// The events of the ledger 0 are of the channels 0, 1, 0, 1, 0, 1.
	s := made(t, 2)
	if k, found, more := s.Look(w); k != (api.Key{}) || found || !more || s.Place() != 1 {
		t.Errorf("one of another channel: %v, %v, %v, %d", k, found, more, s.Place())
	}
	for range 2 {
		if k, found, more := s.Look(w); k != (api.Key{Chan: 1, Seq: 1}) || !found || !more || s.Place() != 1 {
			t.Errorf("one that is of use: %v, %v, %v, %d", k, found, more, s.Place())
		}
	}
	s.Next()
	s.Next()
	if k, found, _ := s.Look(w); k != (api.Key{Chan: 1, Seq: 2}) || !found || s.Place() != 3 {
		t.Errorf("the next one: %v, %v, %d", k, found, s.Place())
	}
	s.Reset()
	if s.Place() != 0 {
		t.Errorf("Reset: %d", s.Place())
	}
	for range 9 {
		s.Next()
	}
	if k, found, more := s.Look(w); k != (api.Key{}) || found || more || s.Place() != 9 {
		t.Errorf("behind the end: %v, %v, %v, %d", k, found, more, s.Place())
	}
}

// keys are all that a scan finds.
func keys(s *scan.Scan, w *world.World) []api.Key {
	var l []api.Key
	for {
		k, found, more := s.Look(w)
		if !more {
			return l
		}
		if found {
			l = append(l, k)
			s.Next()
		}
	}
}

func TestAllOfADirectionAreFound(t *testing.T) {
	w := busy(t)
	for n := range 4 {
		channel, from := conf.Dir(n)
		want := []api.Key{{Chan: channel, From: from, Seq: 1}, {Chan: channel, From: from, Seq: 2}, {Chan: channel, From: from, Seq: 3}}
		if got := keys(made(t, n), w); !slices.Equal(got, want) {
			t.Errorf("%d: %v", n, got)
		}
	}
	for n := 4; n < 8; n++ {
		if got := keys(made(t, n), w); len(got) != 0 {
			t.Errorf("%d: %v", n, got)
		}
	}
	// What was received, and acknowledged, is found no more.
	p, _ := w.Ledger(0).Find(api.Key{Seq: 2})
	do(t, w, 1, api.Msg{Kind: api.MsgRecv, Packet: p})
	if got := keys(made(t, 0), w); len(got) != 3 {
		t.Errorf("received: %v", got)
	}
	do(t, w, 0, api.Msg{Kind: api.MsgAck, Packet: p, Ack: packet.Ack(p)})
	if got := keys(made(t, 0), w); !slices.Equal(got, []api.Key{{Seq: 1}, {Seq: 3}}) {
		t.Errorf("acknowledged: %v", got)
	}
	// Nor is anything of a channel whose end is closed there.
	for w.Ledger(1).Height() < 9 {
		w.Tick(1)
	}
	q, _ := w.Ledger(0).Find(api.Key{Chan: 1, Seq: 3})
	do(t, w, 0, api.Msg{Kind: api.MsgTimeout, Packet: q})
	if got := keys(made(t, 2), w); len(got) != 0 {
		t.Errorf("closed: %v", got)
	}
	if got := keys(made(t, 3), w); len(got) != 3 {
		t.Errorf("the other end: %v", got)
	}
}

func TestUse(t *testing.T) {
	w := busy(t)
	x, _ := w.Ledger(0).Event(0)
	other := func(change func(x *api.Event)) api.Event {
		y := x
		change(&y)
		return y
	}
	for i, y := range []struct {
		w    *world.World
		n    int
		x    api.Event
		want bool
	}{
		{w, 0, x, true},
		{nil, 0, x, false}, {w, -1, x, false}, {w, 8, x, false}, {w, math.MaxInt, x, false}, {w, 2, x, false}, {w, 4, x, false},
		{w, 0, other(func(x *api.Event) { x.Kind = api.EvRecv }), false},
		{w, 0, other(func(x *api.Event) { x.Kind = 0 }), false},
		{w, 0, other(func(x *api.Event) { x.Packet.Chan = 1 }), false},
		{w, 2, other(func(x *api.Event) { x.Packet.Chan = 1 }), true},
		{w, 0, other(func(x *api.Event) { x.Packet.Seq = 4 }), false},
		{w, 0, other(func(x *api.Event) { x.Packet.Seq = 0 }), false},
		{w, 0, other(func(x *api.Event) { x.Height = 77 }), true},
		{w, 4, other(func(x *api.Event) { x.Packet.Chan = 2 }), false},
		{w, 0, api.Event{}, false},
	} {
		if got := scan.Use(y.w, y.n, y.x); got != y.want {
			t.Errorf("%d: %v", i, got)
		}
	}
}
