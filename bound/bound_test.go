package bound_test

import (
	"math"
	"math/rand"
	"slices"
	"testing"

	"muleteer/api"
	"muleteer/bound"
	"muleteer/conf"
	"muleteer/packet"
	"muleteer/relay"
	"muleteer/worker"
)

func made(t *testing.T, c api.Config) *relay.Relay {
	t.Helper()
	r, e := relay.New(c)
	if e != api.OK {
		t.Fatalf("New: %v", e)
	}
	return r
}

func TestLongest(t *testing.T) {
	for _, c := range []api.Config{{}, conf.Plain(0, 1), conf.Plain(1, 9)} {
		if n := bound.Longest(c); n != 0 {
			t.Errorf("%v: %d", c, n)
		}
	}
	if n := bound.Longest(conf.Plain(1, 1)); n != 3*4+2+9*6+14*2+3*3*2+16 {
		t.Errorf("%d", n)
	}
	c := api.Config{Ordered: []bool{true}, Accounts: 1, Shards: 8, Room: 9, Pool: 9, Block: 9, Batch: 7, Txs: 4, Scan: 5, Queue: 11, Wait: 3, First: 6}
	if n := bound.Longest(c); n != 15+8+99+56+84+16 {
		t.Errorf("%d", n)
	}
}

func TestLoadAndWindows(t *testing.T) {
	c := conf.Plain(2, 1)
	r := made(t, c)
	w := r.Site().World
	load := func(want int) {
		t.Helper()
		if got := bound.Load(r); got != want || bound.Windows(r) != bound.Longest(c)*4*(8+4*want) {
			t.Errorf("%d, %d windows, not %d", got, bound.Windows(r), want)
		}
	}
	load(0)
	r.Start()
	load(12)
	w.Send(api.Packet{})
	w.Send(api.Packet{Chan: 1, From: 1})
	w.Foreign(1, 1)
	load(15)
	w.Reject(0)
	w.Reject(1)
	w.Reject(1)
	load(18)
	// What waits is done: of two packets commitments and events are left.
	w.Tick(0)
	w.Tick(1)
	load(15 + 4)
	r.Site().Do(api.Op{Kind: api.OpInsert, Key: api.Key{Seq: 9}})
	load(20)
	r.Crash(0)
	load(20)
}

func TestNoRelay(t *testing.T) {
	n, settled := bound.Settle(nil, []api.Key{{}}, nil, 9)
	if bound.Load(nil) != 0 || bound.Windows(nil) != 0 || bound.Window(nil, 0) != api.ErrArg || len(bound.Open(nil)) != 0 || !bound.Settled(nil, []api.Key{{}}) || n != 0 || !settled {
		t.Errorf("a relay that nobody made tells something")
	}
}

// TestWindow looks at who did a step in which order, and which ledger comes first.
func TestWindow(t *testing.T) {
	for order := range uint64(12) {
		r := made(t, conf.Plain(1, 1))
		r.Start()
		// A crash: the direction 1 can't do a step, but the keeper can.
		r.Crash(1)
		for range 9 {
			r.Step(relay.Keeper)
		}
		w := r.Site().World
		w.Send(api.Packet{})
		w.Send(api.Packet{From: 1})
		if e := bound.Window(r, order); e != api.OK || w.Ticks() != 2 || w.Ledger(0).Height() != 1 || w.Ledger(1).Height() != 1 {
			t.Errorf("%d: %v, %d ticks", order, e, w.Ticks())
		}
		if first := w.Marks()[0].Side; first != int(order%2) {
			t.Errorf("%d: first the ledger %d", order, first)
		}
		if r.Worker(0).Phase() != worker.Looking {
			t.Errorf("%d: the direction 0 did no step", order)
		}
	}
	// Both packets are there: who inserts first is told by the order of places.
	for order, want := range [][]int{{0, 1}, {0, 1}, {1, 0}, {1, 0}, {0, 1}, {1, 0}, {0, 1}} {
		r := made(t, conf.Plain(1, 1))
		w := r.Site().World
		w.Send(api.Packet{})
		w.Send(api.Packet{From: 1})
		w.Tick(0)
		w.Tick(1)
		r.Start()
		bound.Window(r, uint64(order))
		l := r.Site().Hist.Records()
		if len(l) != 2 || l[0].Op.Who != want[0]+1 || l[1].Op.Who != want[1]+1 {
			t.Errorf("%d: %v", order, l)
		}
	}
	// The keeper stands behind the directions.
	r := made(t, conf.Plain(1, 1))
	r.Start()
	r.Crash(0)
	bound.Window(r, 0)
	if r.Worker(1).Phase() != worker.Looking || !r.Status().Busy {
		t.Errorf("%v", r.Status())
	}
}

func TestOpenAndSettled(t *testing.T) {
	r := made(t, conf.Plain(3, 1))
	w := r.Site().World
	for range 2 {
		for channel := range 3 {
			for side := range 2 {
				w.Send(api.Packet{Chan: channel, From: side})
			}
		}
		w.Tick(0)
		w.Tick(1)
		w.Tick(0)
		w.Tick(1)
	}
	want := []api.Key{{Seq: 1}, {Seq: 2}, {From: 1, Seq: 1}, {From: 1, Seq: 2}, {Chan: 2, Seq: 1}, {Chan: 2, Seq: 2}, {Chan: 2, From: 1, Seq: 1}, {Chan: 2, From: 1, Seq: 2}}
	if got := bound.Open(r); !slices.Equal(got, want) {
		t.Errorf("%v", got)
	}
	do := func(kind int, k api.Key) { r.Site().Do(api.Op{Kind: kind, Who: 7, Key: k}) }
	settled := func(k api.Key, want bool) {
		t.Helper()
		if bound.Settled(r, []api.Key{k}) != want || bound.Settled(r, []api.Key{{Seq: 99}, k, {Seq: 98}}) != want {
			t.Errorf("%v: %v", k, !want)
		}
	}
	if !bound.Settled(r, nil) {
		t.Errorf("nothing is settled")
	}
	settled(api.Key{Seq: 1}, false)
	settled(api.Key{Chan: 1, Seq: 1}, false)
	for _, k := range []api.Key{{Seq: 99}, {From: 2, Seq: 1}, {From: -1, Seq: 1}, {Chan: -1, Seq: 1}, {Chan: math.MaxInt, From: math.MinInt}} {
		settled(k, true)
		do(api.OpInsert, k)
		settled(k, false)
		do(api.OpClaim, k)
		settled(k, false)
		do(api.OpComplete, k)
		settled(k, true)
		do(api.OpExpire, k)
	}
	// A commitment counts, whatever the entry is.
	do(api.OpInsert, api.Key{Seq: 1})
	do(api.OpClaim, api.Key{Seq: 1})
	do(api.OpComplete, api.Key{Seq: 1})
	settled(api.Key{Seq: 1}, false)
}

func TestSettle(t *testing.T) {
	r := made(t, conf.Plain(1, 1))
	if n, ok := bound.Settle(r, bound.Open(r), nil, 9); n != 0 || !ok {
		t.Errorf("a new relay: %d, %v", n, ok)
	}
	w := r.Site().World
	w.Send(api.Packet{})
	w.Tick(0)
	open := bound.Open(r)
	for _, most := range []int{0, -1, math.MinInt} {
		if n, ok := bound.Settle(r, open, nil, most); n != 0 || ok || w.Ticks() != 1 {
			t.Errorf("at most %d: %d, %v", most, n, ok)
		}
	}
	// Nobody runs: the time goes on all the same.
	if n, ok := bound.Settle(r, open, nil, 3); n != 3 || ok || w.Ticks() != 7 {
		t.Errorf("%d, %v, %d ticks", n, ok, w.Ticks())
	}
	r.Start()
	n, ok := bound.Settle(r, open, []uint64{1, 2, 3}, bound.Windows(r))
	if !ok || n < 10 || w.Ticks() != 7+2*uint64(n) || !w.Ledger(1).Line(0).Received(1) || len(bound.Open(r)) != 0 {
		t.Errorf("%d, %v", n, ok)
	}
	if again, ok := bound.Settle(r, open, nil, 9); again != 0 || !ok {
		t.Errorf("once more: %d, %v", again, ok)
	}
	// The orders are taken one behind the other, around.
	for i, orders := range [][]uint64{{4, 1, 3}, {5}, {2, 5}, nil} {
		a, b := made(t, conf.Plain(1, 1)), made(t, conf.Plain(1, 1))
		for _, x := range []*relay.Relay{a, b} {
			x.Site().World.Send(api.Packet{})
			x.Site().World.Send(api.Packet{From: 1})
			x.Site().World.Tick(0)
			x.Site().World.Tick(1)
			x.Start()
		}
		if n, ok := bound.Settle(a, bound.Open(a), orders, 8); n != 8 || ok {
			t.Errorf("%d: %d, %v", i, n, ok)
		}
		for j := range 8 {
			order := uint64(0)
			if len(orders) > 0 {
				order = orders[j%len(orders)]
			}
			bound.Window(b, order)
		}
		if !slices.Equal(a.Site().Hist.Records(), b.Site().Hist.Records()) || a.Site().World.Ticks() != b.Site().World.Ticks() {
			t.Errorf("%d: other orders", i)
		}
	}
}

// TestAllIsCarried: behind any script, if the relay is running, all is settled within the bound, in whatever orders.
func TestAllIsCarried(t *testing.T) {
	for seed := range 60 {
		g := rand.New(rand.NewSource(int64(seed)))
		c := api.Config{
			Ordered: make([]bool, 1+g.Intn(3)), Accounts: 1 + g.Intn(2), Shards: 1 + g.Intn(3), Room: 1 + g.Intn(5), Pool: 1 + g.Intn(5), Block: 1 + g.Intn(3),
			Batch: 1 + g.Intn(3), Txs: 1 + g.Intn(2), Scan: 1 + g.Intn(4), Queue: 1 + g.Intn(5), Wait: g.Intn(4), First: uint64(g.Intn(2)) << 63,
		}
		for i := range c.Ordered {
			c.Ordered[i] = g.Intn(3) == 0
		}
		r := made(t, c)
		r.Start()
		w := r.Site().World
		for range 600 {
			switch g.Intn(20) {
			case 0, 1:
				w.Send(api.Packet{Chan: g.Intn(len(c.Ordered)), From: g.Intn(2), Timeout: uint64(g.Intn(2) * g.Intn(200))})
			case 2, 3:
				w.Tick(g.Intn(2))
			case 4:
				switch g.Intn(5) {
				case 0:
					r.Crash(g.Intn(6))
				case 1:
					w.Foreign(g.Intn(2), 1+g.Intn(2))
				case 2:
					w.Reject(g.Intn(2))
				case 3:
					r.Stop()
				}
			case 5:
				r.Start()
			default:
				r.Pick(g.Intn(20))
			}
		}
		if !r.Status().Running {
			for i := 0; r.Start() != api.OK; i++ {
				r.Pick(i)
			}
		}
		open := bound.Open(r)
		var orders []uint64
		for range g.Intn(7) {
			orders = append(orders, g.Uint64())
		}
		most := bound.Windows(r)
		if n, ok := bound.Settle(r, open, orders, most); !ok {
			t.Fatalf("seed %d: not settled in %d windows", seed, n)
		}
		for _, k := range open {
			got := w.Ledger(1 - k.From).Line(k.Chan).Received(k.Seq)
			acked, late := 0, 0
			for _, m := range w.Marks() {
				if packet.Key(m.Event.Packet) != k {
					continue
				}
				switch m.Event.Kind {
				case api.EvAck:
					acked++
				case api.EvTimeout:
					late++
				}
			}
			if got && (acked != 1 || late != 0) || !got && (acked != 0 || late != 1) {
				t.Errorf("seed %d: %v: received %v, acknowledged %d times, told late %d times", seed, k, got, acked, late)
			}
		}
	}
}
