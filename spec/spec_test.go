package spec_test

import (
	"math"
	"math/rand"
	"slices"
	"testing"

	"muleteer/alloc"
	"muleteer/api"
	"muleteer/conf"
	"muleteer/spec"
	"muleteer/table"
)

func made(t *testing.T, c api.Config) *spec.Object {
	t.Helper()
	o, e := spec.New(c)
	if e != api.OK || o == nil {
		t.Fatalf("New: %v", e)
	}
	return o
}

func small() api.Config {
	c := conf.Plain(2, 2)
	c.Room, c.First = 2, 5
	return c
}

var k = api.Key{Chan: 1, Seq: 5}

func TestNew(t *testing.T) {
	for _, c := range []api.Config{{}, conf.Plain(0, 1), conf.Plain(1, 9)} {
		if o, e := spec.New(c); o != nil || e != api.ErrArg {
			t.Errorf("%v: %v", c, e)
		}
	}
	o := made(t, small())
	if len(o.Entries()) != 0 {
		t.Errorf("%v", o.Entries())
	}
	for side := -1; side <= 2; side++ {
		for n := -1; n <= 3; n++ {
			var want uint64
			if side >= 0 && side <= 1 && n >= 1 && n <= 2 {
				want = 5
			}
			if epoch, next, back, held := o.Numbers(side, n); epoch != 0 || next != want || len(back) != 0 || len(held) != 0 {
				t.Errorf("%d, %d: %d, %d", side, n, epoch, next)
			}
		}
	}
}

func TestEntriesOneByOne(t *testing.T) {
	o := made(t, small())
	for i, x := range []struct {
		op   api.Op
		code api.Errno
		then []api.Entry
	}{
		{api.Op{Kind: api.OpClaim, Who: 0, Key: k}, api.ErrArg, nil},
		{api.Op{Kind: api.OpClaim, Who: 1, Key: k}, api.ErrNone, nil},
		{api.Op{Kind: api.OpExpire, Key: k}, api.ErrNone, nil},
		{api.Op{Kind: api.OpInsert, Key: k}, api.OK, []api.Entry{{Key: k, State: api.StPending}}},
		{api.Op{Kind: api.OpInsert, Key: k}, api.ErrExists, []api.Entry{{Key: k, State: api.StPending}}},
		{api.Op{Kind: api.OpClaim, Who: 4, Key: k}, api.OK, []api.Entry{{Key: k, State: api.StClaimed, Owner: 4}}},
		{api.Op{Kind: api.OpClaim, Who: 5, Key: k}, api.ErrState, []api.Entry{{Key: k, State: api.StClaimed, Owner: 4}}},
		{api.Op{Kind: api.OpRelease, Who: 5, Key: k}, api.ErrNotOwner, []api.Entry{{Key: k, State: api.StClaimed, Owner: 4}}},
		{api.Op{Kind: api.OpRelease, Who: 4, Key: k}, api.OK, []api.Entry{{Key: k, State: api.StPending}}},
		{api.Op{Kind: api.OpComplete, Who: 4, Key: k}, api.ErrState, []api.Entry{{Key: k, State: api.StPending}}},
		{api.Op{Kind: api.OpClaim, Who: 5, Key: k}, api.OK, []api.Entry{{Key: k, State: api.StClaimed, Owner: 5}}},
		{api.Op{Kind: api.OpExpire, Key: k}, api.ErrState, []api.Entry{{Key: k, State: api.StClaimed, Owner: 5}}},
		{api.Op{Kind: api.OpComplete, Who: 5, Key: k}, api.OK, []api.Entry{{Key: k, State: api.StDone}}},
		{api.Op{Kind: api.OpExpire, Key: k}, api.OK, nil},
	} {
		if r := o.Do(x.op); r != (api.Ret{E: x.code}) || !slices.Equal(o.Entries(), x.then) {
			t.Errorf("%d: %v, %v", i, r, o.Entries())
		}
	}
}

func TestNumbersOneByOne(t *testing.T) {
	o := made(t, small())
	op := func(kind, who int, epoch, n uint64) api.Op {
		return api.Op{Kind: kind, Who: who, Side: 1, Account: 2, Epoch: epoch, N: n}
	}
	for i, x := range []struct {
		op   api.Op
		want api.Ret
		next uint64
		back []uint64
		held []uint64
	}{
		{op(api.OpReserve, 0, 0, 1), api.Ret{E: api.ErrArg}, 5, nil, nil},
		{op(api.OpReserve, 1, 0, 0), api.Ret{E: api.ErrArg}, 5, nil, nil},
		{op(api.OpReserve, 1, 0, 9), api.Ret{E: api.ErrArg}, 5, nil, nil},
		{op(api.OpReserve, 1, 0, 4), api.Ret{N: 5, Many: 4}, 9, nil, []uint64{5, 6, 7, 8}},
		{op(api.OpReturn, 2, 0, 5), api.Ret{E: api.ErrNotOwner}, 9, nil, []uint64{5, 6, 7, 8}},
		{op(api.OpReturn, 1, 1, 5), api.Ret{E: api.ErrEpoch}, 9, nil, []uint64{5, 6, 7, 8}},
		{op(api.OpReturn, 1, 0, 9), api.Ret{E: api.ErrNone}, 9, nil, []uint64{5, 6, 7, 8}},
		{op(api.OpReturn, 1, 0, 7), api.Ret{}, 9, []uint64{7}, []uint64{5, 6, 8}},
		{op(api.OpReturn, 1, 0, 7), api.Ret{E: api.ErrNone}, 9, []uint64{7}, []uint64{5, 6, 8}},
		{op(api.OpReturn, 1, 0, 5), api.Ret{}, 9, []uint64{5, 7}, []uint64{6, 8}},
		{op(api.OpCommit, 1, 0, 6), api.Ret{}, 9, []uint64{5, 7}, []uint64{8}},
		{op(api.OpDrop, 1, 0, 0), api.Ret{N: 1}, 9, []uint64{5, 7, 8}, nil},
		{op(api.OpReserve, 3, 0, 4), api.Ret{N: 5, Many: 1}, 9, []uint64{7, 8}, []uint64{5}},
		{op(api.OpReserve, 3, 0, 1), api.Ret{N: 7, Many: 1}, 9, []uint64{8}, []uint64{5, 7}},
		{op(api.OpResync, 2, 0, api.Top-1), api.Ret{Epoch: 1}, api.Top - 1, nil, nil},
		{op(api.OpReserve, 3, 0, 4), api.Ret{Epoch: 1, N: api.Top - 1, Many: 1}, api.Top, nil, []uint64{api.Top - 1}},
		{op(api.OpReserve, 3, 0, 4), api.Ret{E: api.ErrExhausted}, api.Top, nil, []uint64{api.Top - 1}},
	} {
		if r := o.Do(x.op); r != x.want {
			t.Errorf("%d: %v", i, r)
		}
		if _, next, back, held := o.Numbers(1, 2); next != x.next || !slices.Equal(back, x.back) || !slices.Equal(held, x.held) {
			t.Errorf("%d: %d, %v, %v", i, next, back, held)
		}
	}
	if r := o.Do(api.Op{Kind: api.OpReserve, Who: 1, Account: 1, N: 2 * api.MaxTxs}); r != (api.Ret{N: 5, Many: 8}) {
		t.Errorf("as many as may be: %v", r)
	}
	if r := o.Do(api.Op{Kind: api.OpReserve, Who: 1, Account: 3, N: 1}); r != (api.Ret{E: api.ErrAccount}) {
		t.Errorf("no account: %v", r)
	}
}

func TestOtherKinds(t *testing.T) {
	o := made(t, small())
	for _, kind := range []int{0, -1, 11, math.MinInt, math.MaxInt} {
		if r := o.Do(api.Op{Kind: kind, Who: 1, Account: 1}); r != (api.Ret{E: api.ErrArg}) {
			t.Errorf("%d: %v", kind, r)
		}
	}
}

func TestNoObject(t *testing.T) {
	var o *spec.Object
	epoch, next, back, held := o.Numbers(0, 1)
	if o.Do(api.Op{Kind: api.OpInsert}) != (api.Ret{E: api.ErrArg}) || o.Copy() != nil || len(o.Entries()) != 0 || epoch != 0 || next != 0 || len(back) != 0 || len(held) != 0 {
		t.Errorf("an object that nobody made tells something")
	}
	if !o.Same(nil) || o.Same(made(t, small())) || made(t, small()).Same(nil) {
		t.Errorf("none is the same as none")
	}
}

func TestSameAndCopy(t *testing.T) {
	reserve := api.Op{Kind: api.OpReserve, Who: 1, Account: 1, N: 2}
	for i, l := range [][2][]api.Op{
		{{{Kind: api.OpInsert, Key: k}}, nil},
		{{{Kind: api.OpInsert, Key: k}}, {{Kind: api.OpInsert, Key: api.Key{Seq: 9}}}},
		{{{Kind: api.OpInsert, Key: k}, {Kind: api.OpClaim, Who: 1, Key: k}}, {{Kind: api.OpInsert, Key: k}, {Kind: api.OpClaim, Who: 2, Key: k}}},
		{{reserve}, nil},
		{{reserve}, {{Kind: api.OpReserve, Who: 2, Account: 1, N: 2}}},
		{{reserve}, {{Kind: api.OpReserve, Who: 1, Account: 2, N: 2}}},
		{{reserve}, {reserve, {Kind: api.OpReturn, Who: 1, Account: 1, N: 5}}},
		{{reserve, {Kind: api.OpCommit, Who: 1, Account: 1, N: 5}}, {reserve, {Kind: api.OpReturn, Who: 1, Account: 1, N: 5}}},
		{{{Kind: api.OpResync, Who: 1, Account: 1, N: 5}}, nil},
		{{{Kind: api.OpResync, Who: 1, Account: 1, N: 5}}, {{Kind: api.OpResync, Who: 1, Account: 1, N: 6}}},
	} {
		var o [2]*spec.Object
		for j := range o {
			o[j] = made(t, small())
			for _, x := range l[j] {
				o[j].Do(x)
			}
			if c := o[j].Copy(); !c.Same(o[j]) || !o[j].Same(c) {
				t.Errorf("%d: a copy is another one", i)
			}
		}
		if o[0].Same(o[1]) || o[1].Same(o[0]) {
			t.Errorf("%d: still the same", i)
		}
	}
	o := made(t, small())
	o.Do(api.Op{Kind: api.OpInsert, Key: k})
	c := o.Copy()
	c.Do(api.Op{Kind: api.OpClaim, Who: 1, Key: k})
	c.Do(reserve)
	if _, next, _, _ := o.Numbers(0, 1); next != 5 || o.Entries()[0].State != api.StPending || o.Same(c) {
		t.Errorf("a copy shares memory")
	}
	for _, change := range []func(c *api.Config){func(c *api.Config) { c.Shards++ }, func(c *api.Config) { c.Room++ }, func(c *api.Config) { c.First++ }, func(c *api.Config) { c.Accounts++ }} {
		other := small()
		change(&other)
		if made(t, small()).Same(made(t, other)) {
			t.Errorf("the same as with %v", other)
		}
	}
	other := small()
	other.Pool++
	if !made(t, small()).Same(made(t, other)) {
		t.Errorf("what plays no part plays one")
	}
}

// TestATableAndAnAllocatorAnswerAsAnObject, and what has an error changes nothing.
func TestATableAndAnAllocatorAnswerAsAnObject(t *testing.T) {
	r := rand.New(rand.NewSource(8))
	for seed := range 40 {
		c := conf.Plain(1, 1+seed%2)
		c.Shards, c.Room, c.First = 1+seed%3, 1+seed%4, []uint64{0, 7, api.Top - 9}[seed%3]
		o := made(t, c)
		x, _ := table.New(c)
		a, _ := alloc.New(c)
		for range 400 {
			op := api.Op{Kind: 1 + r.Intn(10), Who: r.Intn(4), Key: api.Key{Chan: r.Intn(2), From: r.Intn(2), Seq: uint64(r.Intn(4))}, Side: r.Intn(2), Account: r.Intn(3), N: c.First + uint64(r.Intn(9))}
			op.Epoch, _ = a.Epoch(op.Side, op.Account)
			switch op.Kind {
			case api.OpReserve:
				op.N = uint64(r.Intn(5))
			case api.OpResync:
				if r.Intn(5) > 0 {
					continue
				}
			}
			before := o.Copy()
			want := x.Do(op)
			if op.Kind >= api.OpReserve {
				want = a.Do(op)
			}
			if got := o.Do(op); got != want {
				t.Fatalf("%v: %v, not %v", op, got, want)
			}
			if want.E != api.OK && !o.Same(before) {
				t.Fatalf("%v changed something", op)
			}
		}
		if !slices.Equal(o.Entries(), x.All()) {
			t.Errorf("%v and %v", o.Entries(), x.All())
		}
		for side := range 2 {
			for account := 1; account <= c.Accounts; account++ {
				epoch, next, back, held := o.Numbers(side, account)
				e, _ := a.Epoch(side, account)
				n, _ := a.Next(side, account)
				var free []uint64
				for _, run := range a.Free(side, account) {
					for i := range run.Many {
						free = append(free, run.First+i)
					}
				}
				all := slices.Concat(a.Held(side, account, 1), a.Held(side, account, 2), a.Held(side, account, 3))
				slices.Sort(all)
				if epoch != e || next != n || !slices.Equal(back, free) || !slices.Equal(held, all) {
					t.Errorf("%d, %d: %d, %d, %v, %v", side, account, epoch, next, back, held)
				}
			}
		}
	}
}
