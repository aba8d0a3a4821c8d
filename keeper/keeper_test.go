package keeper_test

import (
	"math"
	"slices"
	"testing"

	"muleteer/api"
	"muleteer/conf"
	"muleteer/keeper"
	"muleteer/worker"
)

const (
	idle  = keeper.Idle
	look  = keeper.Looking
	fix   = keeper.Fixing
	drop  = keeper.Dropping
	start = keeper.Starting
)

func made(t *testing.T) (*worker.Site, *keeper.Keeper) {
	t.Helper()
	s, e := worker.At(conf.Plain(2, 3))
	if e != api.OK {
		t.Fatalf("At: %v", e)
	}
	k, e := keeper.New(s)
	if e != api.OK || k == nil {
		t.Fatalf("New: %v", e)
	}
	return s, k
}

func crash(who int) api.Exit   { return api.Exit{Who: who, How: api.ExCrash, Steps: 7} }
func stopped(who int) api.Exit { return api.Exit{Who: who, How: api.ExStopped, Steps: 7} }

// steps does steps in which nothing is asked for, and holds the phases behind them against these.
func steps(t *testing.T, k *keeper.Keeper, phases ...int) {
	t.Helper()
	for i, want := range phases {
		if asked := k.Step(); asked != api.None || k.Phase() != want {
			t.Fatalf("step %d: phase %d, not %d, asked for %d", i+1, k.Phase(), want, asked)
		}
	}
}

func TestPhases(t *testing.T) {
	if !slices.Equal([]int{idle, look, fix, drop, start}, []int{0, 1, 2, 3, 4}) {
		t.Errorf("the phases' numbers")
	}
}

func TestNewAndTell(t *testing.T) {
	if k, e := keeper.New(nil); k != nil || e != api.ErrArg {
		t.Errorf("without a site: %v", e)
	}
	_, k := made(t)
	if k.Busy() || k.Phase() != idle || k.Dead() != 0 || k.Told() != 0 {
		t.Errorf("a new keeper: %v, %d", k.Busy(), k.Phase())
	}
	steps(t, k, idle, idle)
	for i, x := range []struct {
		x         api.Exit
		direction int
	}{
		{crash(1), -1}, {crash(1), 4}, {crash(1), math.MaxInt}, {crash(1), math.MinInt},
		{crash(0), 0}, {crash(-1), 0}, {api.Exit{Who: 1}, 0}, {api.Exit{Who: 1, How: 3}, 0}, {api.Exit{Who: 1, How: -1}, 0},
	} {
		if e := k.Tell(x.x, x.direction); e != api.ErrArg || k.Busy() || k.Told() != 0 {
			t.Errorf("%d: %v", i, e)
		}
	}
	for range api.MaxList {
		if e := k.Tell(stopped(1), 3); e != api.OK {
			t.Fatalf("Tell: %v", e)
		}
	}
	if e := k.Tell(crash(1), 0); e != api.ErrFull || k.Told() != api.MaxList {
		t.Errorf("%v, %d", e, k.Told())
	}
	if e := k.Tell(crash(0), 0); e != api.ErrArg {
		t.Errorf("%v", e)
	}
	steps(t, k, idle)
	if e := k.Tell(crash(math.MaxInt), 0); e != api.OK || k.Told() != api.MaxList+1 {
		t.Errorf("%v", e)
	}
}

func TestNoKeeper(t *testing.T) {
	var k *keeper.Keeper
	if k.Tell(crash(1), 0) != api.ErrArg || k.Busy() || k.Step() != api.None || k.Phase() != idle || k.Dead() != 0 || k.Told() != 0 {
		t.Errorf("a keeper that nobody made tells something")
	}
}

func TestOneThatWasStopped(t *testing.T) {
	s, k := made(t)
	s.Do(api.Op{Kind: api.OpInsert, Key: api.Key{Seq: 1}})
	s.Do(api.Op{Kind: api.OpClaim, Who: 1, Key: api.Key{Seq: 1}})
	k.Tell(stopped(1), 0)
	if !k.Busy() {
		t.Errorf("an end is in line")
	}
	steps(t, k, idle)
	if k.Busy() || k.Dead() != 0 || s.Table.Count(api.StClaimed) != 1 || len(s.Hist.Records()) != 0 {
		t.Errorf("something was done for one that was stopped")
	}
}

func TestOneThatHadNothing(t *testing.T) {
	s, k := made(t)
	k.Tell(crash(5), 2)
	steps(t, k, look)
	if k.Dead() != 5 || !k.Busy() {
		t.Errorf("the dead one is %d", k.Dead())
	}
	steps(t, k, look, fix, drop, drop, drop, drop, drop, drop, drop, start)
	if k.Dead() != 5 || !k.Busy() {
		t.Errorf("the dead one is %d", k.Dead())
	}
	if asked := k.Step(); asked != 2 || k.Phase() != idle || k.Dead() != 0 || k.Busy() || k.Told() != 1 {
		t.Errorf("asked for %d", asked)
	}
	var ops []api.Op
	for _, r := range s.Hist.Records() {
		ops = append(ops, r.Op)
	}
	if !slices.Equal(ops, []api.Op{{Kind: api.OpDrop, Who: 5, Account: 3}, {Kind: api.OpDrop, Who: 5, Side: 1, Account: 3}}) {
		t.Errorf("%v", ops)
	}
}

// TestOneThatHadSomething: of four claims one is to be done with; others have claims and numbers too.
func TestOneThatHadSomething(t *testing.T) {
	s, k := made(t)
	for range 3 {
		s.World.Send(api.Packet{Data: "x"})
	}
	s.World.Tick(0)
	gone := api.Key{Chan: 1, Seq: 9}
	mine := []api.Key{{Seq: 3}, {Seq: 1}, gone, {Seq: 2}}
	others := api.Key{From: 1, Seq: 1}
	for _, key := range append(slices.Clone(mine), others, api.Key{Seq: 8}) {
		s.Do(api.Op{Kind: api.OpInsert, Key: key})
	}
	for _, key := range mine {
		s.Do(api.Op{Kind: api.OpClaim, Who: 1, Key: key})
	}
	s.Do(api.Op{Kind: api.OpClaim, Who: 2, Key: others})
	for _, o := range []api.Op{{Who: 1, Account: 1, N: 2}, {Who: 2, Account: 1, N: 1}, {Who: 1, Account: 1, N: 1}, {Who: 1, Side: 1, Account: 1, N: 3}, {Who: 1, Account: 2, N: 1}} {
		o.Kind = api.OpReserve
		s.Do(o)
	}
	k.Tell(crash(1), 0)
	steps(t, k, look, look, fix)
	steps(t, k, slices.Repeat([]int{fix}, 12)...)
	steps(t, k, drop, drop, drop, drop, drop, drop, drop, start)
	if asked := k.Step(); asked != 0 {
		t.Errorf("asked for %d", asked)
	}
	var l []api.Op
	for _, r := range s.Hist.Records()[:4] {
		l = append(l, r.Op)
	}
	if !slices.Equal(l, []api.Op{
		{Kind: api.OpRelease, Who: 1, Key: api.Key{Seq: 1}}, {Kind: api.OpRelease, Who: 1, Key: api.Key{Seq: 2}},
		{Kind: api.OpRelease, Who: 1, Key: api.Key{Seq: 3}}, {Kind: api.OpComplete, Who: 1, Key: gone},
	}) {
		t.Errorf("%v", l)
	}
	want := []api.Entry{
		{Key: api.Key{Seq: 1}, State: api.StPending}, {Key: api.Key{Seq: 2}, State: api.StPending}, {Key: api.Key{Seq: 3}, State: api.StPending},
		{Key: api.Key{Seq: 8}, State: api.StPending}, {Key: others, State: api.StClaimed, Owner: 2}, {Key: gone, State: api.StDone},
	}
	if got := s.Table.All(); !slices.Equal(got, want) {
		t.Errorf("%v", got)
	}
	// Only the numbers of the direction's account are dropped: no worker of it has others.
	if len(s.Alloc.Held(0, 1, 1)) != 0 || len(s.Alloc.Held(1, 1, 1)) != 0 || !slices.Equal(s.Alloc.Held(0, 1, 2), []uint64{2}) || len(s.Alloc.Held(0, 2, 1)) != 1 {
		t.Errorf("%v", s.Alloc.Held(0, 1, 2))
	}
	free := s.Alloc.Free(0, 1)
	if len(free) != 2 || free[0].Many != 2 || free[1].First != 3 || s.Alloc.Free(1, 1)[0].Many != 3 {
		t.Errorf("%v, %v", free, s.Alloc.Free(1, 1))
	}
}

// TestWhatIsToBeDoneCounts at the time when a key is taken, not when it was noted.
func TestWhatIsToBeDoneCounts(t *testing.T) {
	s, k := made(t)
	s.World.Send(api.Packet{Timeout: 1})
	s.World.Tick(0)
	key := api.Key{Seq: 1}
	s.Do(api.Op{Kind: api.OpInsert, Key: key})
	s.Do(api.Op{Kind: api.OpClaim, Who: 1, Key: key})
	k.Tell(crash(1), 0)
	steps(t, k, look, look, fix)
	s.World.Tick(1)
	p, _ := s.World.Ledger(0).Find(key)
	s.World.Submit(api.Tx{Account: 1, Msgs: []api.Msg{{Kind: api.MsgTimeout, Packet: p}}})
	s.World.Tick(0)
	steps(t, k, fix, fix, fix, drop)
	if x, _ := s.Table.Get(key); x.State != api.StDone {
		t.Errorf("%v", x)
	}
}

// TestEachOneIsLookedAfterWhole: of the second one all shards and both ledgers are looked at too.
func TestEachOneIsLookedAfterWhole(t *testing.T) {
	s, k := made(t)
	for who := 1; who <= 3; who++ {
		for seq := range uint64(3) {
			key := api.Key{Chan: who, Seq: seq}
			s.Do(api.Op{Kind: api.OpInsert, Key: key})
			s.Do(api.Op{Kind: api.OpClaim, Who: who, Key: key})
		}
		for side := range 2 {
			s.Do(api.Op{Kind: api.OpReserve, Who: who, Side: side, Account: 1, N: 1})
		}
		k.Tell(crash(who), 0)
	}
	for i := 0; k.Busy(); i++ {
		if k.Step(); i > 200 {
			t.Fatalf("no end")
		}
	}
	if n := s.Table.Count(api.StDone); n != 9 {
		t.Errorf("%d are done", n)
	}
	for who := 1; who <= 3; who++ {
		if len(s.Alloc.Held(0, 1, who)) != 0 || len(s.Alloc.Held(1, 1, who)) != 0 {
			t.Errorf("%d holds numbers", who)
		}
	}
}

func TestOneBehindTheOther(t *testing.T) {
	_, k := made(t)
	k.Tell(crash(1), 3)
	k.Tell(stopped(2), 0)
	k.Tell(crash(3), 1)
	var asked, dead []int
	for i := 0; k.Busy(); i++ {
		if i > 100 {
			t.Fatalf("no end")
		}
		if d := k.Dead(); d != 0 && (len(dead) == 0 || dead[len(dead)-1] != d) {
			dead = append(dead, d)
		}
		if n := k.Step(); n != api.None {
			asked = append(asked, n)
		}
	}
	if !slices.Equal(asked, []int{3, 1}) || !slices.Equal(dead, []int{1, 3}) || k.Told() != 3 {
		t.Errorf("%v, %v", asked, dead)
	}
}
