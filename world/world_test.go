package world_test

import (
	"math"
	"reflect"
	"slices"
	"testing"

	"muleteer/api"
	"muleteer/conf"
	"muleteer/fault"
	"muleteer/packet"
	"muleteer/world"
)

func made(t *testing.T, c api.Config) *world.World {
	t.Helper()
	w, e := world.New(c)
	if e != api.OK || w == nil {
		t.Fatalf("New: %v", e)
	}
	return w
}

func want(t *testing.T, what string, e error, code api.Errno, places ...int) {
	t.Helper()
	if fault.Code(e) != code || !slices.Equal(fault.Places(e), places) {
		t.Errorf("%s: %v", what, e)
	}
}

var odd = []int{-1, 2, math.MinInt, math.MaxInt}

func TestNew(t *testing.T) {
	for _, c := range []api.Config{{}, conf.Plain(0, 1), conf.Plain(1, 9)} {
		if w, e := world.New(c); w != nil || e != api.ErrArg {
			t.Errorf("%v: %v", c, e)
		}
	}
	w := made(t, conf.Plain(2, 1))
	for side := range 2 {
		if l := w.Ledger(side); l == nil || l.Side() != side || l.Height() != 0 || w.Rejects(side) != 0 {
			t.Errorf("ledger %d", side)
		}
	}
	if w.Ticks() != 0 || len(w.Marks()) != 0 {
		t.Errorf("%d ticks, %v", w.Ticks(), w.Marks())
	}
}

func TestRejectAndSubmit(t *testing.T) {
	w := made(t, conf.Plain(1, 1))
	if w.Reject(0) != api.OK || w.Reject(1) != api.OK || w.Reject(1) != api.OK {
		t.Errorf("Reject")
	}
	if w.Rejects(0) != 1 || w.Rejects(1) != 2 {
		t.Errorf("%d, %d", w.Rejects(0), w.Rejects(1))
	}
	e := w.Submit(api.Tx{Account: 1})
	want(t, "the first one", e, api.ErrRejected, fault.World)
	if fault.Text(e) != "world: rejected" || w.Rejects(0) != 0 || w.Rejects(1) != 2 || w.Ledger(0).Waiting() != 0 {
		t.Errorf("%v, %d", e, w.Rejects(0))
	}
	if e := w.Submit(api.Tx{Account: 1}); e != nil || w.Ledger(0).Waiting() != 1 {
		t.Errorf("the second one: %v", e)
	}
	// One that isn't right is rejected too, ahead of what the ledger tells.
	want(t, "not right", w.Submit(api.Tx{Side: 1, Account: 9}), api.ErrRejected, fault.World)
	if w.Rejects(1) != 1 {
		t.Errorf("%d", w.Rejects(1))
	}
	want(t, "what the ledger tells", w.Submit(api.Tx{Account: 1, Nonce: 0}), api.ErrNonce, fault.World, fault.Ledger, fault.Accounts, fault.Low)
	want(t, "not right", w.Submit(api.Tx{Account: 9}), api.ErrArg, fault.World, fault.Ledger)
	for _, side := range odd {
		want(t, "no side", w.Submit(api.Tx{Side: side}), api.ErrArg, fault.World)
		if w.Reject(side) != api.ErrArg || w.Rejects(side) != 0 {
			t.Errorf("side %d", side)
		}
	}
}

func TestSend(t *testing.T) {
	c := conf.Plain(1, 1)
	c.Pool = 2
	w := made(t, c)
	w.Reject(0)
	p := api.Packet{Data: "x"}
	if e := w.Send(p); e != nil || w.Rejects(0) != 1 || !w.Ledger(0).Has(api.Msg{Kind: api.MsgSend, Packet: p}) {
		t.Errorf("%v, %d", e, w.Rejects(0))
	}
	want(t, "not right", w.Send(api.Packet{Seq: 1}), api.ErrArg, fault.World, fault.Ledger)
	want(t, "not right", w.Send(api.Packet{Chan: 4}), api.ErrArg, fault.World, fault.Ledger)
	for _, side := range odd {
		want(t, "no side", w.Send(api.Packet{From: side}), api.ErrArg, fault.World)
	}
	if e := w.Send(p); e != nil {
		t.Errorf("the second one: %v", e)
	}
	want(t, "a full pool", w.Send(p), api.ErrPool, fault.World, fault.Ledger, fault.Pool)
	results, e := w.Tick(0)
	if e != api.OK || len(results) != 2 || results[0].Account != 0 || results[1].Nonce != 1 {
		t.Errorf("%v, %v", results, e)
	}
	if q, ok := w.Ledger(0).Find(api.Key{Seq: 2}); !ok || q.Data != "x" {
		t.Errorf("%v", q)
	}
}

func TestForeign(t *testing.T) {
	c := conf.Plain(1, 2)
	c.First = api.Top - 1
	w := made(t, c)
	w.Reject(1)
	if e := w.Foreign(1, 2); e != nil || w.Ledger(1).Waiting() != 1 || w.Rejects(1) != 1 {
		t.Errorf("%v", e)
	}
	want(t, "at its end", w.Foreign(1, 2), api.ErrExhausted, fault.World, fault.Ledger, fault.Accounts)
	want(t, "no account", w.Foreign(1, 3), api.ErrAccount, fault.World, fault.Ledger, fault.Accounts)
	want(t, "no account", w.Foreign(1, -1), api.ErrAccount, fault.World, fault.Ledger, fault.Accounts)
	for _, side := range odd {
		want(t, "no side", w.Foreign(side, 1), api.ErrArg, fault.World)
	}
	results, _ := w.Tick(1)
	if len(results) != 1 || results[0].Account != 2 || results[0].Nonce != api.Top-1 || len(results[0].Codes) != 0 {
		t.Errorf("%v", results)
	}
}

func TestTickAndMarks(t *testing.T) {
	w := made(t, conf.Plain(2, 1))
	for _, side := range odd {
		if l, e := w.Tick(side); len(l) != 0 || e != api.ErrArg {
			t.Errorf("side %d: %v", side, e)
		}
	}
	if w.Ticks() != 0 {
		t.Errorf("%d ticks", w.Ticks())
	}
	w.Send(api.Packet{Chan: 1, Timeout: 1, Data: "x"})
	w.Send(api.Packet{Chan: 1, From: 1, Data: "y"})
	w.Send(api.Packet{Data: "z"})
	for i, side := range []int{1, 0, 0} {
		l, e := w.Tick(side)
		if e != api.OK || w.Ticks() != uint64(i)+1 || !reflect.DeepEqual(l, w.Ledger(side).Results()) && i < 2 {
			t.Errorf("%d: %v, %v", i, l, e)
		}
	}
	p := api.Packet{Chan: 1, Seq: 1, Timeout: 1, Data: "x"}
	if w.Marks()[0].Side != 1 || len(w.Marks()) != 2 {
		t.Fatalf("%v", w.Marks())
	}
	q := api.Packet{Seq: 1, Data: "z"}
	w.Submit(api.Tx{Side: 1, Account: 1, Msgs: []api.Msg{{Kind: api.MsgRecv, Packet: q}}})
	w.Tick(1)
	want := []api.Mark{
		{Side: 1, Event: api.Event{Kind: api.EvSend, Height: 1, Packet: api.Packet{Chan: 1, From: 1, Seq: 1, Data: "y"}}},
		{Side: 0, Event: api.Event{Kind: api.EvSend, Height: 1, Packet: q}},
		{Side: 1, Event: api.Event{Kind: api.EvRecv, Height: 2, Packet: q, Ack: packet.Ack(q)}},
	}
	if _, ok := w.Ledger(0).Find(packet.Key(p)); ok || !slices.Equal(w.Marks(), want) {
		t.Errorf("%v", w.Marks())
	}
	w.Marks()[0].Side = 0
	if w.Marks()[0].Side != 1 {
		t.Errorf("Marks share memory with the world")
	}
}

// TestTheMarksOfALedgerAreItsEvents, in the order in which they happened, a closed end's too.
func TestTheMarksOfALedgerAreItsEvents(t *testing.T) {
	w := made(t, conf.Plain(2, 1))
	for i := range 60 {
		p := api.Packet{Chan: i % 2, From: i / 2 % 2, Timeout: uint64(i%3) * (w.Ledger(1-i/2%2).Height() + 2)}
		w.Send(p)
		if i%3 == 0 {
			w.Tick(i / 3 % 2)
		}
		for side := range 2 {
			for _, m := range w.Marks() {
				if m.Side == side && m.Event.Kind == api.EvSend && m.Event.Packet.Timeout > 0 {
					n, _ := w.Ledger(side).Expected(1)
					w.Submit(api.Tx{Side: side, Account: 1, Nonce: n, Msgs: []api.Msg{{Kind: api.MsgTimeout, Packet: m.Event.Packet}}})
				}
			}
		}
	}
	shut := 0
	for side := range 2 {
		var l []api.Event
		for _, m := range w.Marks() {
			if m.Side == side {
				l = append(l, m.Event)
			}
			if m.Event.Kind == api.EvClose {
				shut++
			}
		}
		if !slices.Equal(l, w.Ledger(side).Events()) || len(l) == 0 {
			t.Errorf("ledger %d: %v", side, l)
		}
	}
	if shut == 0 {
		t.Errorf("no end closed")
	}
}

func TestNoWorld(t *testing.T) {
	var w *world.World
	want(t, "Submit", w.Submit(api.Tx{}), api.ErrArg, fault.World)
	want(t, "Send", w.Send(api.Packet{}), api.ErrArg, fault.World)
	want(t, "Foreign", w.Foreign(0, 1), api.ErrArg, fault.World)
	l, e := w.Tick(0)
	if w.Reject(0) != api.ErrArg || w.Rejects(0) != 0 || len(l) != 0 || e != api.ErrArg || w.Ticks() != 0 || w.Ledger(0) != nil || len(w.Marks()) != 0 {
		t.Errorf("a world that nobody made tells something")
	}
}
