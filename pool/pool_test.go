package pool_test

import (
	"math"
	"math/rand"
	"slices"
	"testing"

	"muleteer/api"
	"muleteer/pool"
	"muleteer/txn"
)

func empty(t *testing.T, most int) *pool.Pool {
	t.Helper()
	p, e := pool.New(most)
	if e != api.OK || p == nil {
		t.Fatalf("New(%d): %v", most, e)
	}
	return p
}

func same(a, b []api.Tx) bool { return slices.EqualFunc(a, b, txn.Same) }

func TestNew(t *testing.T) {
	for n, code := range map[int]api.Errno{math.MinInt: api.ErrArg, -1: api.ErrArg, 0: api.ErrArg, 1: api.OK, api.MaxPool: api.OK, api.MaxPool + 1: api.ErrArg, math.MaxInt: api.ErrArg} {
		if p, e := pool.New(n); e != code || (p != nil) != (code == api.OK) || p.Len() != 0 {
			t.Errorf("%d: %v", n, e)
		}
	}
}

func TestAddAndTake(t *testing.T) {
	p := empty(t, 1)
	a, b := api.Tx{Nonce: 1}, api.Tx{Nonce: 2}
	if e := p.Add(api.Tx{Side: 2}); e != api.ErrArg || p.Len() != 0 {
		t.Errorf("one that isn't right: %v", e)
	}
	if e, f := p.Add(a), p.Add(b); e != api.OK || f != api.ErrFull {
		t.Errorf("%v, %v", e, f)
	}
	if e := p.Add(api.Tx{Account: -1}); e != api.ErrArg {
		t.Errorf("one that isn't right, to a full pool: %v", e)
	}
	if l := p.Take(5); !same(l, []api.Tx{a}) || p.Len() != 0 {
		t.Errorf("%v", l)
	}
	if l := p.Take(5); len(l) != 0 {
		t.Errorf("of nothing: %v", l)
	}
	for _, n := range []int{0, -1, math.MinInt} {
		p.Add(a)
		if l := p.Take(n); len(l) != 0 || p.Len() != 1 {
			t.Errorf("%d: %v", n, l)
		}
	}
	if l := p.Take(math.MaxInt); len(l) != 1 {
		t.Errorf("all: %v", l)
	}
}

func TestWaitingHasAndAll(t *testing.T) {
	p := empty(t, 4)
	ack := api.Msg{Kind: api.MsgAck, Packet: api.Packet{Seq: 1}, Ack: "x"}
	late := api.Msg{Kind: api.MsgTimeout, Packet: api.Packet{Seq: 1}}
	l := []api.Tx{{Account: 1}, {Account: 2, Msgs: []api.Msg{late}}, {Account: 1, Nonce: 1, Msgs: []api.Msg{late, ack}}, {Account: 0}}
	for _, x := range l {
		p.Add(x)
	}
	for account, want := range map[int]int{-1: 0, 0: 1, 1: 2, 2: 1, 3: 0, math.MaxInt: 0} {
		if n := p.Waiting(account); n != want {
			t.Errorf("account %d: %d", account, n)
		}
	}
	other := ack
	other.Ack = "y"
	if !p.Has(ack) || !p.Has(late) || p.Has(other) || p.Has(api.Msg{}) {
		t.Errorf("Has")
	}
	if p.Len() != 4 || !same(p.All(), l) || !same(p.All(), l) {
		t.Errorf("%v", p.All())
	}
	p.Take(2)
	if p.Waiting(1) != 1 || p.Waiting(2) != 0 || !p.Has(late) || !same(p.All(), l[2:]) {
		t.Errorf("behind two: %v", p.All())
	}
	p.Take(1)
	if p.Has(late) || p.Has(ack) || p.Waiting(1) != 0 {
		t.Errorf("what was taken is still there")
	}
}

func TestMemoryIsNotShared(t *testing.T) {
	p := empty(t, 4)
	late := api.Msg{Kind: api.MsgTimeout}
	in := []api.Msg{late}
	p.Add(api.Tx{Msgs: in})
	in[0].Kind = 9
	p.All()[0].Msgs[0].Kind = 9
	if !p.Has(late) || !same(p.All(), []api.Tx{{Msgs: []api.Msg{late}}}) {
		t.Errorf("%v", p.All())
	}
}

func TestNoPool(t *testing.T) {
	var p *pool.Pool
	if p.Add(api.Tx{}) != api.ErrArg || len(p.Take(3)) != 0 || p.Len() != 0 || p.Waiting(0) != 0 || p.Has(api.Msg{}) || len(p.All()) != 0 {
		t.Errorf("a pool that nobody made tells something")
	}
}

// Whatever is added and taken: a pool is a line of at most so many.
func TestOrder(t *testing.T) {
	r := rand.New(rand.NewSource(1))
	for _, most := range []int{1, 3, api.MaxPool} {
		p := empty(t, most)
		var line []api.Tx
		for i := range 500 {
			if r.Intn(3) > 0 {
				x := api.Tx{Account: r.Intn(3), Nonce: uint64(i)}
				e := p.Add(x)
				if full := len(line) == most; full != (e == api.ErrFull) || !full && e != api.OK {
					t.Fatalf("Add to %d of %d: %v", len(line), most, e)
				}
				if e == api.OK {
					line = append(line, x)
				}
			} else {
				n := min(r.Intn(5), len(line))
				if l := p.Take(n); !same(l, line[:n]) {
					t.Fatalf("Take(%d): %v", n, l)
				}
				line = line[n:]
			}
			if p.Len() != len(line) || !same(p.All(), line) {
				t.Fatalf("%v and %v", p.All(), line)
			}
		}
	}
}
