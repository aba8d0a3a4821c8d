package alloc_test

import (
	"math"
	"math/rand"
	"slices"
	"sync"
	"testing"

	"muleteer/alloc"
	"muleteer/api"
	"muleteer/conf"
	"muleteer/gap"
)

const last = math.MaxUint64

func made(t *testing.T, first uint64) *alloc.Alloc {
	t.Helper()
	c := conf.Plain(1, 2)
	c.First = first
	a, e := alloc.New(c)
	if e != api.OK || a == nil {
		t.Fatalf("New: %v", e)
	}
	return a
}

// op is an operation on the account 1 of the ledger 0.
func op(kind, who int, epoch, n uint64) api.Op {
	return api.Op{Kind: kind, Who: who, Account: 1, Epoch: epoch, N: n}
}

func done(t *testing.T, a *alloc.Alloc, o api.Op, want api.Ret) {
	t.Helper()
	if r := a.Do(o); r != want {
		t.Errorf("%v: %v, not %v", o, r, want)
	}
}

// state looks at the account 1 of the ledger 0.
func state(t *testing.T, a *alloc.Alloc, epoch, next uint64, free ...gap.Run) {
	t.Helper()
	e, ok := a.Epoch(0, 1)
	n, had := a.Next(0, 1)
	if e != epoch || !ok || n != next || !had || !slices.Equal(a.Free(0, 1), free) {
		t.Errorf("epoch %d, next %d, free %v", e, n, a.Free(0, 1))
	}
}

func TestNew(t *testing.T) {
	for _, c := range []api.Config{{}, conf.Plain(1, 0), conf.Plain(1, 5)} {
		if a, e := alloc.New(c); a != nil || e != api.ErrArg {
			t.Errorf("%v: %v", c, e)
		}
	}
	a := made(t, 5)
	for side := -1; side <= 2; side++ {
		for account := -1; account <= 3; account++ {
			there := (side == 0 || side == 1) && (account == 1 || account == 2)
			epoch, ok := a.Epoch(side, account)
			next, had := a.Next(side, account)
			if epoch != 0 || ok != there || had != there || there && next != 5 || !there && next != 0 || len(a.Free(side, account)) != 0 || len(a.Held(side, account, 1)) != 0 {
				t.Errorf("%d, %d: %d, %v, %d", side, account, epoch, ok, next)
			}
		}
	}
	if _, ok := a.Epoch(math.MaxInt, math.MinInt); ok {
		t.Errorf("there are numbers of no account")
	}
}

func TestTheExample(t *testing.T) {
	a := made(t, 5)
	done(t, a, op(api.OpReserve, 1, 0, 2), api.Ret{N: 5, Many: 2})
	done(t, a, op(api.OpReserve, 2, 0, 1), api.Ret{N: 7, Many: 1})
	done(t, a, op(api.OpReturn, 1, 0, 5), api.Ret{})
	state(t, a, 0, 8, gap.Run{First: 5, Many: 1})
	done(t, a, op(api.OpReserve, 2, 0, 1), api.Ret{N: 5, Many: 1})
	state(t, a, 0, 8)
	if !slices.Equal(a.Held(0, 1, 1), []uint64{6}) || !slices.Equal(a.Held(0, 1, 2), []uint64{5, 7}) || len(a.Held(0, 1, 3)) != 0 || len(a.Held(0, 1, 0)) != 0 {
		t.Errorf("%v, %v", a.Held(0, 1, 1), a.Held(0, 1, 2))
	}
	// The other accounts have numbers of their own.
	for _, x := range [][2]int{{0, 2}, {1, 1}, {1, 2}} {
		if n, _ := a.Next(x[0], x[1]); n != 5 || len(a.Held(x[0], x[1], 1)) != 0 {
			t.Errorf("%v: %d", x, n)
		}
	}
}

func TestArguments(t *testing.T) {
	a := made(t, 5)
	for _, kind := range []int{0, -1, api.OpInsert, api.OpExpire, 11, math.MinInt, math.MaxInt} {
		done(t, a, op(kind, 1, 0, 1), api.Ret{E: api.ErrArg})
	}
	for kind := api.OpReserve; kind <= api.OpDrop; kind++ {
		for _, who := range []int{0, -1, math.MinInt} {
			done(t, a, op(kind, who, 0, 1), api.Ret{E: api.ErrArg})
			done(t, a, api.Op{Kind: kind, Who: who, Account: 9, N: 1}, api.Ret{E: api.ErrArg})
		}
		for _, x := range [][2]int{{-1, 1}, {2, 1}, {0, 0}, {0, 3}, {0, -1}, {math.MaxInt, 1}, {0, math.MinInt}} {
			done(t, a, api.Op{Kind: kind, Who: 1, Side: x[0], Account: x[1], N: 99}, api.Ret{E: api.ErrAccount})
		}
	}
	for _, n := range []uint64{0, 2*api.MaxTxs + 1, last} {
		done(t, a, op(api.OpReserve, 1, 0, n), api.Ret{E: api.ErrArg})
	}
	state(t, a, 0, 5)
	done(t, a, op(api.OpReserve, 1, 77, 2*api.MaxTxs), api.Ret{N: 5, Many: 8})
}

func TestCommitAndReturn(t *testing.T) {
	for _, kind := range []int{api.OpCommit, api.OpReturn} {
		a := made(t, 5)
		done(t, a, op(api.OpReserve, 3, 0, 3), api.Ret{N: 5, Many: 3})
		done(t, a, op(kind, 3, 1, 5), api.Ret{E: api.ErrEpoch})
		done(t, a, op(kind, 3, 1, 99), api.Ret{E: api.ErrEpoch})
		done(t, a, op(kind, 3, 0, 4), api.Ret{E: api.ErrNone})
		done(t, a, op(kind, 3, 0, 8), api.Ret{E: api.ErrNone})
		done(t, a, op(kind, 4, 0, 8), api.Ret{E: api.ErrNone})
		done(t, a, op(kind, 4, 0, 6), api.Ret{E: api.ErrNotOwner})
		if !slices.Equal(a.Held(0, 1, 3), []uint64{5, 6, 7}) {
			t.Errorf("an error changed something: %v", a.Held(0, 1, 3))
		}
		done(t, a, op(kind, 3, 0, 6), api.Ret{})
		done(t, a, op(kind, 3, 0, 6), api.Ret{E: api.ErrNone})
		if !slices.Equal(a.Held(0, 1, 3), []uint64{5, 7}) {
			t.Errorf("%v", a.Held(0, 1, 3))
		}
		if kind == api.OpReturn {
			state(t, a, 0, 8, gap.Run{First: 6, Many: 1})
			done(t, a, op(api.OpReserve, 1, 0, 4), api.Ret{N: 6, Many: 1})
		} else {
			state(t, a, 0, 8)
			done(t, a, op(api.OpReserve, 1, 0, 4), api.Ret{N: 8, Many: 4})
		}
	}
}

func TestTheLowestRunIsReservedFirst(t *testing.T) {
	a := made(t, 0)
	done(t, a, op(api.OpReserve, 1, 0, 8), api.Ret{Many: 8})
	for _, n := range []uint64{6, 2, 3, 1} {
		done(t, a, op(api.OpReturn, 1, 0, n), api.Ret{})
	}
	state(t, a, 0, 8, gap.Run{First: 1, Many: 3}, gap.Run{First: 6, Many: 1})
	done(t, a, op(api.OpReserve, 2, 0, 2), api.Ret{N: 1, Many: 2})
	done(t, a, op(api.OpReserve, 2, 0, 8), api.Ret{N: 3, Many: 1})
	done(t, a, op(api.OpReserve, 2, 0, 8), api.Ret{N: 6, Many: 1})
	done(t, a, op(api.OpReserve, 2, 0, 1), api.Ret{N: 8, Many: 1})
	state(t, a, 0, 9)
}

func TestTheEnd(t *testing.T) {
	a := made(t, api.Top-3)
	done(t, a, op(api.OpReserve, 1, 0, 2), api.Ret{N: api.Top - 3, Many: 2})
	done(t, a, op(api.OpReserve, 1, 0, 2), api.Ret{N: api.Top - 1, Many: 1})
	done(t, a, op(api.OpReserve, 1, 0, 2), api.Ret{E: api.ErrExhausted})
	state(t, a, 0, api.Top)
	done(t, a, op(api.OpReturn, 1, 0, api.Top-1), api.Ret{})
	done(t, a, op(api.OpReserve, 2, 0, 2), api.Ret{N: api.Top - 1, Many: 1})
	a = made(t, api.Top)
	done(t, a, op(api.OpReserve, 1, 0, 1), api.Ret{E: api.ErrExhausted})
	done(t, a, op(api.OpReserve, 1, 0, 0), api.Ret{E: api.ErrArg})
}

func TestResync(t *testing.T) {
	a := made(t, 5)
	done(t, a, op(api.OpReserve, 1, 0, 4), api.Ret{N: 5, Many: 4})
	done(t, a, op(api.OpReturn, 1, 0, 6), api.Ret{})
	done(t, a, op(api.OpResync, 9, 44, 3), api.Ret{Epoch: 1})
	state(t, a, 1, 3)
	if len(a.Held(0, 1, 1)) != 0 {
		t.Errorf("%v", a.Held(0, 1, 1))
	}
	done(t, a, op(api.OpReturn, 1, 0, 5), api.Ret{E: api.ErrEpoch})
	done(t, a, op(api.OpCommit, 1, 1, 5), api.Ret{E: api.ErrNone})
	done(t, a, op(api.OpReserve, 1, 0, 3), api.Ret{Epoch: 1, N: 3, Many: 3})
	done(t, a, op(api.OpCommit, 1, 1, 5), api.Ret{})
	done(t, a, op(api.OpResync, 1, 0, api.Top), api.Ret{Epoch: 2})
	done(t, a, op(api.OpReserve, 1, 0, 1), api.Ret{E: api.ErrExhausted})
	state(t, a, 2, api.Top)
	if e, _ := a.Epoch(1, 1); e != 0 {
		t.Errorf("the other ledger's epoch: %d", e)
	}
}

func TestDrop(t *testing.T) {
	a := made(t, 0)
	done(t, a, op(api.OpReserve, 1, 0, 3), api.Ret{Many: 3})
	done(t, a, op(api.OpReserve, 2, 0, 1), api.Ret{N: 3, Many: 1})
	done(t, a, op(api.OpReserve, 1, 0, 2), api.Ret{N: 4, Many: 2})
	done(t, a, op(api.OpCommit, 1, 0, 1), api.Ret{})
	done(t, a, op(api.OpDrop, 3, 7, 7), api.Ret{})
	done(t, a, op(api.OpDrop, 1, 7, 7), api.Ret{N: 4})
	state(t, a, 0, 6, gap.Run{First: 0, Many: 1}, gap.Run{First: 2, Many: 1}, gap.Run{First: 4, Many: 2})
	if len(a.Held(0, 1, 1)) != 0 || !slices.Equal(a.Held(0, 1, 2), []uint64{3}) {
		t.Errorf("%v, %v", a.Held(0, 1, 1), a.Held(0, 1, 2))
	}
	done(t, a, op(api.OpDrop, 1, 0, 0), api.Ret{})
}

func TestNoAlloc(t *testing.T) {
	var a *alloc.Alloc
	for kind := range 12 {
		done(t, a, op(kind, 1, 0, 1), api.Ret{E: api.ErrArg})
	}
	epoch, ok := a.Epoch(0, 1)
	next, had := a.Next(0, 1)
	if epoch != 0 || ok || next != 0 || had || len(a.Free(0, 1)) != 0 || len(a.Held(0, 1, 1)) != 0 {
		t.Errorf("an Alloc that nobody made tells something")
	}
}

// TestNoNumberIsHeldByTwo, whatever is asked for.
func TestNoNumberIsHeldByTwo(t *testing.T) {
	r := rand.New(rand.NewSource(7))
	for seed := range 20 {
		a := made(t, api.Top-40*uint64(seed%2+1))
		holder := map[uint64]int{}
		next, _ := a.Next(0, 1)
		for range 200 {
			who := 1 + r.Intn(3)
			epoch, _ := a.Epoch(0, 1)
			n := api.Top - 1 - uint64(r.Intn(60))
			switch kind := api.OpReserve + r.Intn(4); kind {
			case api.OpReserve:
				x := a.Do(op(kind, who, 0, 1+uint64(r.Intn(4))))
				for i := range x.Many {
					if holder[x.N+i] != 0 || x.N+i == api.Top {
						t.Fatalf("%d is held by %d", x.N+i, holder[x.N+i])
					}
					holder[x.N+i] = who
				}
			case api.OpCommit, api.OpReturn:
				if x := a.Do(op(kind, who, epoch, n)); (x.E == api.OK) != (holder[n] == who) {
					t.Fatalf("%d, held by %d: %v", n, holder[n], x)
				} else if x.E == api.OK {
					delete(holder, n)
				}
			case api.OpResync:
				if r.Intn(10) == 0 {
					a.Do(op(kind, who, 0, n))
					clear(holder)
					next = 0
				}
			}
			now, _ := a.Next(0, 1)
			if now < next {
				t.Fatalf("the next number fell from %d to %d", next, now)
			}
			next = now
		}
	}
}

func TestManyAtOnce(t *testing.T) {
	a := made(t, 0)
	var group sync.WaitGroup
	got := make([][]uint64, 8)
	for who := range got {
		group.Go(func() {
			for range 100 {
				x := a.Do(op(api.OpReserve, who+1, 0, 3))
				for i := range x.Many {
					got[who] = append(got[who], x.N+i)
				}
				a.Held(0, 1, who+1)
			}
		})
	}
	group.Wait()
	all := slices.Concat(got...)
	slices.Sort(all)
	for i, n := range all {
		if n != uint64(i) {
			t.Fatalf("%d stands in the place %d", n, i)
		}
	}
	if len(all) != 2400 {
		t.Errorf("%d numbers", len(all))
	}
}
