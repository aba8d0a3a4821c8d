package submit_test

import (
	"math"
	"slices"
	"testing"

	"muleteer/alloc"
	"muleteer/api"
	"muleteer/conf"
	"muleteer/fault"
	"muleteer/outcome"
	"muleteer/submit"
	"muleteer/txn"
	"muleteer/world"
)

func recv(seq uint64) api.Msg { return api.Msg{Kind: api.MsgRecv, Packet: api.Packet{Seq: seq}} }
func late(seq uint64) api.Msg { return api.Msg{Kind: api.MsgTimeout, Packet: api.Packet{Seq: seq}} }

func both(t *testing.T) (*world.World, *alloc.Alloc) {
	t.Helper()
	c := conf.Plain(1, 2)
	w, e := world.New(c)
	a, f := alloc.New(c)
	if e != api.OK || f != api.OK {
		t.Fatalf("%v, %v", e, f)
	}
	return w, a
}

func want(t *testing.T, what string, e error, code api.Errno, places ...int) {
	t.Helper()
	if fault.Code(e) != code || !slices.Equal(fault.Places(e), places) {
		t.Errorf("%s: %v", what, e)
	}
}

func TestTxsAndMany(t *testing.T) {
	l := []api.Msg{recv(1), late(9), recv(2), recv(3), recv(4), late(8), recv(5)}
	got := submit.Txs(1, 2, 7, l, 2)
	if !slices.EqualFunc(got, []api.Tx{
		{Side: 1, Account: 2, Nonce: 7, Msgs: []api.Msg{recv(1), recv(2)}},
		{Side: 1, Account: 2, Nonce: 8, Msgs: []api.Msg{recv(3), recv(4)}},
		{Side: 1, Account: 2, Nonce: 9, Msgs: []api.Msg{recv(5)}},
	}, txn.Same) {
		t.Errorf("%v", got)
	}
	got = submit.Txs(0, 1, api.Top, l, 1)
	if len(got) != 2 || got[0].Nonce != api.Top || got[1].Nonce != 0 {
		t.Errorf("numbers go around: %v", got)
	}
	for _, x := range []struct {
		side, most int
		many       uint64
	}{{1, 2, 3}, {1, 1, 5}, {1, 5, 1}, {1, 6, 1}, {1, math.MaxInt, 1}, {0, 2, 1}, {0, 1, 2}, {1, 0, 0}, {1, -1, 0}, {0, math.MinInt, 0}, {2, 1, 0}, {api.None, 1, 0}} {
		if n := submit.Many(l, x.side, x.most); n != x.many || uint64(len(submit.Txs(x.side, 1, 0, l, x.most))) != x.many {
			t.Errorf("to %d by %d: %d", x.side, x.most, n)
		}
	}
	if submit.Many(nil, 0, 2) != 0 || len(submit.Txs(0, 1, 0, nil, 2)) != 0 {
		t.Errorf("of nothing")
	}
	l[0] = late(7)
	if got = submit.Txs(1, 2, 7, []api.Msg{recv(1)}, 2); got[0].Msgs[0] != recv(1) {
		t.Errorf("%v", got)
	}
}

func TestSend(t *testing.T) {
	w, a := both(t)
	x := api.Tx{Side: 1, Account: 2, Msgs: []api.Msg{recv(1)}}
	w.Reject(1)
	for i, y := range []struct {
		a     *alloc.Alloc
		t     api.Tx
		epoch uint64
	}{
		{nil, x, 0}, {a, x, 1}, {a, x, api.Top},
		{a, api.Tx{Side: 1, Account: 3}, 0}, {a, api.Tx{Side: 1, Account: 0}, 0}, {a, api.Tx{Side: 2, Account: 1}, 0}, {a, api.Tx{Side: -1, Account: 1}, 0},
	} {
		want(t, "fenced", submit.Send(w, y.a, y.t, y.epoch), api.ErrEpoch, fault.Submit, fault.Numbers)
		if w.Rejects(1) != 1 || w.Ledger(1).Waiting() != 0 {
			t.Errorf("%d: it came to the world", i)
		}
	}
	want(t, "rejected", submit.Send(w, a, x, 0), api.ErrRejected, fault.Submit, fault.World)
	if e := submit.Send(w, a, x, 0); e != nil || !w.Ledger(1).Has(recv(1)) {
		t.Errorf("%v", e)
	}
	want(t, "once more", submit.Send(w, a, x, 0), api.ErrNonce, fault.Submit, fault.World, fault.Ledger, fault.Accounts, fault.Low)
	want(t, "no world", submit.Send(nil, a, x, 0), api.ErrArg, fault.Submit, fault.World)
	want(t, "no world, and a fence", submit.Send(nil, a, x, 1), api.ErrEpoch, fault.Submit, fault.Numbers)
}

func TestNothingComesBehindAResync(t *testing.T) {
	w, a := both(t)
	r := a.Do(api.Op{Kind: api.OpReserve, Who: 1, Side: 1, Account: 1, N: 2})
	l := submit.Txs(1, 1, r.N, []api.Msg{recv(1), recv(2)}, 1)
	if e := submit.Send(w, a, l[0], r.Epoch); e != nil {
		t.Errorf("%v", e)
	}
	a.Do(api.Op{Kind: api.OpResync, Who: 2, Side: 1, Account: 1, N: 1})
	e := submit.Send(w, a, l[1], r.Epoch)
	if outcome.Of(e) != outcome.Fenced || w.Ledger(1).Waiting() != 1 {
		t.Errorf("%v", e)
	}
	if e := submit.Send(w, a, l[1], r.Epoch+1); e != nil {
		t.Errorf("with the new epoch: %v", e)
	}
}

func TestAfter(t *testing.T) {
	x := api.Tx{Side: 1, Account: 2, Nonce: 7, Msgs: []api.Msg{recv(1)}}
	commit := api.Op{Kind: api.OpCommit, Who: 3, Side: 1, Account: 2, Epoch: 4, N: 7}
	back := commit
	back.Kind = api.OpReturn
	anew := api.Op{Kind: api.OpResync, Who: 3, Side: 1, Account: 2, N: 9}
	for k, want := range map[int]api.Op{
		outcome.Taken: commit, outcome.Stale: anew, outcome.Ahead: back, outcome.Crowded: back, outcome.Redundant: back, outcome.Rejected: back,
		outcome.Fenced: {}, outcome.Spent: back, outcome.Wrong: back, 0: {}, 10: {}, -1: {}, math.MaxInt: {},
	} {
		if o, ok := submit.After(k, 3, x, 4, 9); o != want || ok != (want != api.Op{}) {
			t.Errorf("%d: %v, %v", k, o, ok)
		}
	}
}

func TestRight(t *testing.T) {
	for i, x := range []struct {
		t    api.Tx
		want bool
	}{
		{api.Tx{Side: 1, Account: 1, Msgs: []api.Msg{recv(1)}}, true},
		{api.Tx{Side: 1, Account: api.MaxAccounts, Nonce: api.Top, Msgs: []api.Msg{recv(1)}}, true},
		{api.Tx{Side: 1, Account: 0, Msgs: []api.Msg{recv(1)}}, false},
		{api.Tx{Side: 1, Account: api.MaxAccounts + 1, Msgs: []api.Msg{recv(1)}}, false},
		{api.Tx{Side: 1, Account: 1}, false},
		{api.Tx{Side: 0, Account: 1, Msgs: []api.Msg{recv(1)}}, false},
		{api.Tx{Side: 1, Account: 1, Msgs: slices.Repeat([]api.Msg{recv(1)}, api.MaxBatch+1)}, false},
		{api.Tx{}, false},
	} {
		if submit.Right(x.t) != x.want {
			t.Errorf("%d: %v", i, !x.want)
		}
	}
}
