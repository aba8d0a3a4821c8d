package audit_test

import (
	"math"
	"math/rand"
	"slices"
	"testing"

	"muleteer/api"
	"muleteer/audit"
	"muleteer/conf"
	"muleteer/relay"
)

func made(t *testing.T, c api.Config) *relay.Relay {
	t.Helper()
	r, e := relay.New(c)
	if e != api.OK {
		t.Fatalf("New: %v", e)
	}
	return r
}

func TestNames(t *testing.T) {
	for i, name := range []string{"", "linear", "numbers", "nonces", "trace", "owners", "holders", ""} {
		if audit.Name(i) != name {
			t.Errorf("%d: %s", i, audit.Name(i))
		}
	}
	if l := []int{audit.Linear, audit.Numbers, audit.Nonces, audit.Trace, audit.Owners, audit.Holders}; !slices.Equal(l, []int{1, 2, 3, 4, 5, 6}) {
		t.Errorf("%v", l)
	}
	for _, n := range []int{-1, math.MinInt, math.MaxInt} {
		if audit.Name(n) != "" {
			t.Errorf("%d: %s", n, audit.Name(n))
		}
	}
}

// rec is an operation of somebody on the account 1 of the ledger 0.
func rec(kind, who int, n uint64) api.Rec {
	return api.Rec{Op: api.Op{Kind: kind, Who: who, Account: 1, N: n}}
}

// got is a reservation that was answered by so many numbers from n on.
func got(who int, n, many uint64) api.Rec {
	x := rec(api.OpReserve, who, many)
	x.Ret = api.Ret{N: n, Many: many}
	return x
}

func failed(x api.Rec) api.Rec {
	x.Ret.E = api.ErrNone
	return x
}

func at(x api.Rec, side, account int) api.Rec {
	x.Op.Side, x.Op.Account = side, account
	return x
}

func TestApart(t *testing.T) {
	commit, back, anew, drop := api.OpCommit, api.OpReturn, api.OpResync, api.OpDrop
	for i, x := range []struct {
		l    []api.Rec
		want bool
	}{
		{nil, true},
		{[]api.Rec{got(1, 0, 2), got(2, 2, 2)}, true},
		{[]api.Rec{got(1, 0, 2), got(2, 1, 1)}, false},
		{[]api.Rec{got(1, 5, 2), got(1, 4, 2)}, false},
		{[]api.Rec{got(1, 0, 2), failed(got(2, 1, 1))}, true},
		{[]api.Rec{failed(got(1, 0, 2)), got(2, 1, 1)}, true},
		{[]api.Rec{got(1, 0, 2), at(got(2, 1, 1), 1, 1)}, true},
		{[]api.Rec{got(1, 0, 2), at(got(2, 1, 1), 0, 2)}, true},
		{[]api.Rec{at(got(1, 0, 2), -3, 99), at(got(2, 1, 1), -3, 99)}, false},
		// Given back, by its holder.
		{[]api.Rec{got(1, 0, 2), rec(back, 1, 1), got(2, 1, 1)}, true},
		{[]api.Rec{got(1, 0, 2), rec(back, 1, 0), got(2, 1, 1)}, false},
		{[]api.Rec{got(1, 0, 2), rec(back, 2, 1), got(2, 1, 1)}, false},
		{[]api.Rec{got(1, 0, 2), failed(rec(back, 1, 1)), got(2, 1, 1)}, false},
		{[]api.Rec{got(1, 0, 2), at(rec(back, 1, 1), 1, 1), got(2, 1, 1)}, false},
		{[]api.Rec{got(1, 0, 1), rec(back, 1, 0), got(2, 0, 1), rec(back, 1, 0), got(3, 0, 1)}, false},
		{[]api.Rec{got(1, 0, 1), rec(back, 1, 0), got(2, 0, 1), rec(back, 2, 0), got(3, 0, 1)}, true},
		{[]api.Rec{rec(back, 1, 0), got(1, 0, 1)}, true},
		// Committed: it can't be given back any more.
		{[]api.Rec{got(1, 0, 1), rec(commit, 1, 0), got(2, 0, 1)}, false},
		{[]api.Rec{got(1, 0, 1), rec(commit, 1, 0), rec(back, 1, 0), got(2, 0, 1)}, false},
		{[]api.Rec{got(1, 0, 1), rec(commit, 1, 0), rec(drop, 1, 0), got(2, 0, 1)}, false},
		{[]api.Rec{got(1, 0, 1), failed(rec(commit, 1, 0)), rec(back, 1, 0), got(2, 0, 1)}, true},
		{[]api.Rec{got(1, 0, 1), rec(commit, 2, 0), rec(back, 1, 0), got(2, 0, 1)}, true},
		// All that somebody holds.
		{[]api.Rec{got(1, 0, 3), rec(drop, 1, 0), got(2, 0, 3)}, true},
		{[]api.Rec{got(1, 0, 3), rec(drop, 2, 0), got(2, 0, 3)}, false},
		{[]api.Rec{got(1, 0, 3), failed(rec(drop, 1, 0)), got(2, 0, 3)}, false},
		{[]api.Rec{got(1, 0, 3), at(rec(drop, 1, 0), 0, 2), got(2, 0, 3)}, false},
		{[]api.Rec{got(1, 0, 3), got(2, 3, 1), rec(drop, 1, 0), got(2, 3, 1)}, false},
		// Numbers begin anew.
		{[]api.Rec{got(1, 0, 3), rec(anew, 2, 0), got(2, 0, 3)}, true},
		{[]api.Rec{got(1, 0, 3), rec(commit, 1, 1), rec(anew, 2, 0), got(2, 1, 1)}, true},
		{[]api.Rec{got(1, 0, 3), failed(rec(anew, 2, 0)), got(2, 0, 3)}, false},
		{[]api.Rec{got(1, 0, 3), at(rec(anew, 2, 0), 1, 1), got(2, 0, 3)}, false},
		{[]api.Rec{got(1, 0, 3), rec(anew, 2, 0), got(2, 0, 1), got(3, 0, 1)}, false},
		// Numbers go around; of one reservation eight count.
		{[]api.Rec{got(1, api.Top, 2), got(2, 0, 1)}, false},
		{[]api.Rec{got(1, api.Top, 1), got(2, 0, 1)}, true},
		{[]api.Rec{got(1, 0, 99), got(2, 8, 1)}, true},
		{[]api.Rec{got(1, 0, math.MaxUint64), got(2, 7, 1)}, false},
		{[]api.Rec{got(0, 0, 1), rec(back, 0, 0), got(0, 0, 1)}, true},
		// Other kinds play no part.
		{[]api.Rec{got(1, 0, 1), rec(api.OpInsert, 1, 0), rec(99, 1, 0), got(2, 1, 1)}, true},
	} {
		order := make([]int, len(x.l))
		for j := range order {
			order[j] = j
		}
		if audit.Apart(x.l, order) != x.want {
			t.Errorf("%d: %v", i, !x.want)
		}
	}
}

func TestApartGoesByTheOrder(t *testing.T) {
	l := []api.Rec{got(2, 0, 1), got(1, 0, 1), rec(api.OpReturn, 1, 0)}
	for i, x := range []struct {
		order []int
		want  bool
	}{
		{[]int{1, 2, 0}, true}, {[]int{0, 1, 2}, false}, {[]int{1, 0, 2}, false}, {[]int{0}, true}, {nil, true}, {[]int{0, 0}, false},
		{[]int{3}, false}, {[]int{-1}, false}, {[]int{1, 2, 0, math.MaxInt}, false}, {[]int{math.MinInt, 1}, false},
	} {
		if audit.Apart(l, x.order) != x.want {
			t.Errorf("%d: %v", i, !x.want)
		}
	}
	if audit.Apart(nil, []int{0}) {
		t.Errorf("a number of nothing")
	}
}

func TestRise(t *testing.T) {
	result := func(height uint64, account int, n uint64) api.Result {
		return api.Result{Height: height, Account: account, Nonce: n}
	}
	for i, x := range []struct {
		l    []api.Result
		want bool
	}{
		{nil, true},
		{[]api.Result{result(9, 1, 77)}, true},
		{[]api.Result{result(1, 1, 5), result(1, 2, 9), result(2, 1, 6), result(4, 2, 10)}, true},
		{[]api.Result{result(1, 1, 5), result(1, 1, 5)}, false},
		{[]api.Result{result(1, 1, 5), result(1, 1, 7)}, false},
		{[]api.Result{result(1, 1, 5), result(1, 1, 4)}, false},
		{[]api.Result{result(2, 1, 5), result(1, 1, 6)}, false},
		{[]api.Result{result(2, 1, 5), result(1, 2, 6)}, false},
		{[]api.Result{result(1, 1, api.Top), result(1, 1, 0), result(1, 1, 1)}, true},
		{[]api.Result{result(1, 1, api.Top), result(1, 1, 1)}, false},
		{[]api.Result{result(1, -1, 3), result(1, -1, 4), result(1, -1, 4)}, false},
		{[]api.Result{result(1, 1, 0), result(1, 2, 0), result(1, 1, 0)}, false},
	} {
		if audit.Rise(x.l) != x.want {
			t.Errorf("%d: %v", i, !x.want)
		}
	}
}

func look(t *testing.T, what string, r *relay.Relay, want ...int) {
	t.Helper()
	if got := audit.Look(r); !slices.Equal(got, want) {
		t.Errorf("%s: %v, not %v", what, got, want)
	}
}

func TestNothingIsFound(t *testing.T) {
	look(t, "none", nil)
	r := made(t, conf.Plain(1, 1))
	look(t, "a new relay", r)
	r.Start()
	look(t, "a relay that is started", r)
}

func TestWhatIsFound(t *testing.T) {
	insert := api.Op{Kind: api.OpInsert, Key: api.Key{Seq: 1}}
	claim := func(r *relay.Relay, who int) {
		r.Site().Table.Do(insert)
		r.Site().Table.Do(api.Op{Kind: api.OpClaim, Who: who, Key: insert.Key})
	}
	hold := func(r *relay.Relay, who, side int) {
		r.Site().Alloc.Do(api.Op{Kind: api.OpReserve, Who: who, Side: side, Account: 2, N: 1})
	}
	note := func(r *relay.Relay, o api.Op, told api.Ret) {
		n := r.Site().Hist.Begin(o)
		r.Site().Hist.Done(n, told)
		r.Site().Hist.End(n)
	}
	begun := func() *relay.Relay {
		r := made(t, conf.Plain(1, 2))
		r.Start()
		return r
	}
	r := begun()
	note(r, insert, api.Ret{})
	look(t, "what could be", r)
	note(r, insert, api.Ret{})
	look(t, "two inserts of one key", r, audit.Linear)
	r = begun()
	reserve := api.Op{Kind: api.OpReserve, Who: 1, Account: 1, N: 1}
	note(r, reserve, api.Ret{Many: 1})
	note(r, reserve, api.Ret{Many: 1})
	look(t, "a number that was given out twice", r, audit.Linear, audit.Numbers)
	r = begun()
	claim(r, 1)
	hold(r, 2, 1)
	look(t, "workers that live", r)
	claim(r, 3)
	r.Crash(0)
	r.Crash(1)
	look(t, "workers that the keeper is yet to look after", r)
	r = begun()
	claim(r, 3)
	look(t, "an entry that is claimed by nobody", r, audit.Owners)
	// The keeper is yet to look after those alone whose lives have ended.
	r.Crash(0)
	look(t, "an entry that is claimed by nobody, while the keeper is busy", r, audit.Owners)
	// One that was stopped, and has never done anything.
	for account := 1; account <= 2; account++ {
		r = begun()
		r.Stop()
		for i := 0; len(r.Who()) > 0; i++ {
			r.Pick(i)
		}
		r.Site().Alloc.Do(api.Op{Kind: api.OpReserve, Who: account, Account: account, N: 1})
		look(t, "a number that is held by one that was stopped", r, audit.Holders)
	}
	for side := range 2 {
		r = begun()
		r.Crash(0)
		for r.Status().Busy {
			r.Step(relay.Keeper)
		}
		hold(r, 3, side)
		look(t, "a number that is held by a new worker", r)
		hold(r, 1, side)
		look(t, "a number that is held by one that is dead", r, audit.Holders)
		claim(r, 1)
		look(t, "an entry that is claimed by one that is dead", r, audit.Owners, audit.Holders)
		r.Crash(1)
		look(t, "while the keeper is busy with another one", r)
	}
}

// TestBehindAnyScript nothing is found.
func TestBehindAnyScript(t *testing.T) {
	for seed := range 40 {
		g := rand.New(rand.NewSource(int64(seed)))
		c := conf.Plain(1+g.Intn(3), 1+g.Intn(2))
		c.Room, c.Wait, c.Batch, c.Pool = 1+g.Intn(4), g.Intn(3), 1+g.Intn(2), 1+g.Intn(4)
		c.First = []uint64{0, 7, api.Top - 20}[g.Intn(3)]
		r := made(t, c)
		r.Start()
		w := r.Site().World
		for i := range 1500 {
			switch g.Intn(25) {
			case 0, 1:
				w.Send(api.Packet{Chan: g.Intn(3), From: g.Intn(2), Timeout: uint64(g.Intn(2) * g.Intn(200))})
			case 2, 3, 4:
				w.Tick(g.Intn(2))
			case 5:
				switch g.Intn(5) {
				case 0:
					r.Crash(g.Intn(6))
				case 1:
					w.Foreign(g.Intn(2), 1+g.Intn(2))
				case 2:
					w.Reject(g.Intn(2))
				case 3:
					r.Stop()
				}
			case 6:
				r.Start()
			default:
				r.Pick(g.Intn(20))
			}
			if i%100 == 99 {
				look(t, "behind a script", r)
			}
		}
		if len(r.Site().Hist.Records()) < 30 {
			t.Errorf("seed %d: not much happened", seed)
		}
	}
}
