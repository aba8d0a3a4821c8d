package report_test

import (
	"math"
	"slices"
	"testing"

	"muleteer/api"
	"muleteer/conf"
	"muleteer/dice"
	"muleteer/relay"
	"muleteer/report"
	"muleteer/run"
)

func TestOp(t *testing.T) {
	k := api.Key{Chan: 1, From: 1, Seq: 5}
	full := func(kind int) api.Op {
		return api.Op{Kind: kind, Who: 3, Key: k, Side: 1, Account: 2, Epoch: 4, N: 7}
	}
	for i, want := range []string{
		"none by 3 b 2 7", "insert by 3 1b5", "claim by 3 1b5", "release by 3 1b5", "complete by 3 1b5", "expire by 3 1b5",
		"reserve by 3 b 2 7", "commit by 3 b 2 7 in 4", "return by 3 b 2 7 in 4", "resync by 3 b 2 7", "drop by 3 b 2", "none by 3 b 2 7",
	} {
		if got := report.Op(full(i)); got != want {
			t.Errorf("%d: %q", i, got)
		}
	}
	for want, o := range map[string]api.Op{
		"claim by 3 0a5":                       {Kind: api.OpClaim, Who: 3, Key: api.Key{Seq: 5}},
		"none by 0 a 0 0":                      {},
		"none by -1 b -2 0":                    {Kind: math.MinInt, Who: -1, Side: -1, Account: -2},
		"reserve by 1 b 0 0":                   {Kind: api.OpReserve, Who: 1, Side: 7},
		"return by 0 a 0 0 in 0":               {Kind: api.OpReturn},
		"resync by 0 a 0 18446744073709551615": {Kind: api.OpResync, N: api.Top},
	} {
		if got := report.Op(o); got != want {
			t.Errorf("%q: %q", want, got)
		}
	}
}

func TestRet(t *testing.T) {
	fine := api.Ret{Epoch: 4, N: 7, Many: 2}
	for kind, want := range []string{"ok", "ok", "ok", "ok", "ok", "ok", "ok 7 2 in 4", "ok", "ok", "ok in 4", "ok 7", "ok"} {
		if got := report.Ret(kind, fine); got != want {
			t.Errorf("%d: %q", kind, got)
		}
		bad := fine
		bad.E = api.ErrNotOwner
		if got := report.Ret(kind, bad); got != "not owner" {
			t.Errorf("%d: %q", kind, got)
		}
	}
	if got := report.Ret(math.MinInt, api.Ret{E: -1}); got != "unknown" {
		t.Errorf("%q", got)
	}
}

func TestEntry(t *testing.T) {
	k := api.Key{Chan: 2, Seq: 9}
	for want, x := range map[string]api.Entry{
		"2a9 pending": {Key: k, State: api.StPending}, "2a9 claimed 12": {Key: k, State: api.StClaimed, Owner: 12}, "2a9 done": {Key: k, State: api.StDone},
		"2a9 lost": {Key: k, Owner: 3}, "0b0 lost": {Key: api.Key{From: 1}, State: 4}, "-1b0 lost": {Key: api.Key{Chan: -1, From: -1}, State: math.MinInt},
	} {
		if got := report.Entry(x); got != want {
			t.Errorf("%q: %q", want, got)
		}
	}
}

func text(t *testing.T, r *relay.Relay, want string) {
	t.Helper()
	if got := report.Text(r); got != want {
		t.Errorf("%s", got)
	}
}

func TestText(t *testing.T) {
	if got := report.Text(nil); got != "" {
		t.Errorf("%q", got)
	}
	c := conf.Plain(2, 2)
	c.First = 5
	r, _ := relay.New(c)
	text(t, r, `relay still made 0 ends 0 alive idle
ledger a height 0 waiting 0 events 0 nonces 0 5 5
ledger b height 0 waiting 0 events 0 nonces 0 5 5
end 0a unordered open 1 1 1
end 0b unordered open 1 1 1
end 1a ordered open 1 1 1
end 1b ordered open 1 1 1
`)
	r.Start()
	w := r.Site().World
	w.Send(api.Packet{Chan: 1, Timeout: 1})
	w.Send(api.Packet{})
	w.Send(api.Packet{})
	w.Tick(0)
	w.Tick(1)
	p, _ := w.Ledger(0).Find(api.Key{Chan: 1, Seq: 1})
	w.Submit(api.Tx{Account: 2, Nonce: 5, Msgs: []api.Msg{{Kind: api.MsgTimeout, Packet: p}}})
	w.Tick(0)
	w.Foreign(1, 1)
	do := func(kind, who int, k api.Key) { r.Site().Do(api.Op{Kind: kind, Who: who, Key: k}) }
	for seq := range uint64(3) {
		k := api.Key{Chan: 1, From: 1, Seq: seq}
		do(api.OpInsert, 1, k)
		if seq > 0 {
			do(api.OpClaim, 2, k)
		}
		if seq > 1 {
			do(api.OpComplete, 2, k)
		}
	}
	// The worker of the direction 0 inserts two, of which it has not heard the second one yet; that of 3 crashes.
	for range 6 {
		r.Step(0)
	}
	r.Site().Begin(api.Op{Kind: api.OpReserve, Who: 4, Side: 1, Account: 2, N: 2})
	r.Crash(3)
	text(t, r, `relay running made 4 ends 1 alive 0 1 2 busy
ledger a height 2 waiting 0 events 5 nonces 3 5 6
ledger b height 1 waiting 1 events 0 nonces 0 5 5
end 0a unordered open 3 1 1 1 2
end 0b unordered open 1 1 1
end 1a ordered closed 2 1 1
end 1b ordered open 1 1 1
entry 0a1 pending
entry 0a2 pending
entry 1b0 pending
entry 1b1 claimed 2
entry 1b2 done
0: insert by 1 0a1 told ok
1: insert by 1 0a2 told ok cut
2: reserve by 4 b 2 2 cut
`)
}

// TestTheSameWords: who tells the same words has the same entries, workers and heights.
func TestTheSameWords(t *testing.T) {
	c := conf.Plain(2, 1)
	seen := map[string]*relay.Relay{}
	for seed := range uint64(60) {
		x, _, e := run.Play(c, dice.New(seed/2).Script(c, 200))
		if e != api.OK {
			t.Fatalf("%v", e)
		}
		r := x.Relay()
		words := report.Text(r)
		if other, ok := seen[words]; ok {
			if !slices.Equal(other.Site().Table.All(), r.Site().Table.All()) || other.Status().Made != r.Status().Made || other.Site().World.Ledger(0).Height() != r.Site().World.Ledger(0).Height() {
				t.Errorf("seed %d: the same words of two relays", seed)
			}
		} else if seed%2 == 1 {
			t.Errorf("seed %d: other words of the same relay", seed)
		}
		seen[words] = r
	}
}
