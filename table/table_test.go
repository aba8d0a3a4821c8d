package table_test

import (
	"math"
	"math/rand"
	"slices"
	"testing"

	"muleteer/api"
	"muleteer/conf"
	"muleteer/fnv"
	"muleteer/packet"
	"muleteer/table"
)

func made(t *testing.T, shards, room int) *table.Table {
	t.Helper()
	c := conf.Plain(1, 1)
	c.Shards, c.Room = shards, room
	x, e := table.New(c)
	if e != api.OK || x == nil {
		t.Fatalf("New: %v", e)
	}
	return x
}

func op(kind, who int, k api.Key) api.Op {
	return api.Op{Kind: kind, Who: who, Key: k}
}

func TestNew(t *testing.T) {
	for _, c := range []api.Config{{}, conf.Plain(0, 1), {Ordered: []bool{true}, Shards: 9}} {
		if x, e := table.New(c); x != nil || e != api.ErrArg {
			t.Errorf("%v: %v", c, e)
		}
	}
	for shards := 1; shards <= api.MaxShards; shards++ {
		if x := made(t, shards, 3); x.Shards() != shards || len(x.All()) != 0 {
			t.Errorf("%d shards: %d", shards, x.Shards())
		}
	}
}

func TestDo(t *testing.T) {
	x := made(t, 3, 8)
	k := api.Key{Chan: 1, Seq: 5}
	for i, s := range []struct {
		o    api.Op
		want api.Errno
		then api.Entry
	}{
		{op(api.OpClaim, 1, k), api.ErrNone, api.Entry{}},
		{op(api.OpClaim, 0, k), api.ErrArg, api.Entry{}},
		{op(api.OpRelease, 1, k), api.ErrNone, api.Entry{}},
		{op(api.OpComplete, 1, k), api.ErrNone, api.Entry{}},
		{op(api.OpExpire, 1, k), api.ErrNone, api.Entry{}},
		{op(api.OpInsert, 0, k), api.OK, api.Entry{Key: k, State: api.StPending}},
		{op(api.OpInsert, -3, k), api.ErrExists, api.Entry{Key: k, State: api.StPending}},
		{op(api.OpRelease, 1, k), api.ErrState, api.Entry{Key: k, State: api.StPending}},
		{op(api.OpClaim, 4, k), api.OK, api.Entry{Key: k, State: api.StClaimed, Owner: 4}},
		{op(api.OpClaim, 5, k), api.ErrState, api.Entry{Key: k, State: api.StClaimed, Owner: 4}},
		{op(api.OpRelease, 5, k), api.ErrNotOwner, api.Entry{Key: k, State: api.StClaimed, Owner: 4}},
		{op(api.OpRelease, 4, k), api.OK, api.Entry{Key: k, State: api.StPending}},
		{op(api.OpClaim, 5, k), api.OK, api.Entry{Key: k, State: api.StClaimed, Owner: 5}},
		{op(api.OpExpire, 5, k), api.ErrState, api.Entry{Key: k, State: api.StClaimed, Owner: 5}},
		{op(api.OpComplete, 4, k), api.ErrNotOwner, api.Entry{Key: k, State: api.StClaimed, Owner: 5}},
		{op(api.OpComplete, 5, k), api.OK, api.Entry{Key: k, State: api.StDone}},
		{op(api.OpExpire, -9, k), api.OK, api.Entry{}},
	} {
		// What else the operation has plays no part.
		s.o.Side, s.o.Account, s.o.Epoch, s.o.N = 7, -1, 9, api.Top
		if r := x.Do(s.o); r != (api.Ret{E: s.want}) {
			t.Errorf("%d: %v", i, r)
		}
		if got, ok := x.Get(k); got != s.then || ok != (s.then != api.Entry{}) {
			t.Errorf("%d: %v", i, got)
		}
	}
	for _, kind := range []int{0, -1, api.OpReserve, api.OpDrop, 11, math.MinInt, math.MaxInt} {
		if r := x.Do(op(kind, 1, k)); r != (api.Ret{E: api.ErrArg}) || len(x.All()) != 0 {
			t.Errorf("kind %d: %v", kind, r)
		}
	}
}

func TestEachKeyStandsInItsShard(t *testing.T) {
	for shards := 1; shards <= api.MaxShards; shards++ {
		x := made(t, shards, 64)
		var keys []api.Key
		for i := range 40 {
			k := api.Key{Chan: i % 4, From: i / 4 % 2, Seq: uint64(i)}
			keys = append(keys, k)
			if r := x.Do(op(api.OpInsert, 0, k)); r.E != api.OK {
				t.Fatalf("%v", r)
			}
		}
		all := 0
		for n := range shards {
			l := x.Snapshot(n)
			all += len(l)
			for i, e := range l {
				if fnv.Shard(e.Key, shards) != n || i > 0 && !packet.Less(l[i-1].Key, e.Key) {
					t.Errorf("%d shards: %v stands in %d", shards, e.Key, n)
				}
			}
		}
		if all != len(keys) || x.Count(api.StPending) != len(keys) {
			t.Errorf("%d shards: %d entries", shards, all)
		}
		l := x.All()
		for i := range l {
			if i > 0 && !packet.Less(l[i-1].Key, l[i].Key) {
				t.Errorf("%d shards: All is not rising", shards)
			}
		}
		for _, n := range []int{-1, shards, math.MinInt, math.MaxInt} {
			if len(x.Snapshot(n)) != 0 {
				t.Errorf("the shard %d", n)
			}
		}
	}
}

func TestAFullShardLeavesTheOthers(t *testing.T) {
	x := made(t, 2, 1)
	var in [2]int
	for i := range 20 {
		k := api.Key{Seq: uint64(i)}
		n := fnv.Shard(k, 2)
		want := api.OK
		if in[n] > 0 {
			want = api.ErrFull
		} else {
			in[n]++
		}
		if r := x.Do(op(api.OpInsert, 0, k)); r.E != want {
			t.Errorf("%v: %v", k, r.E)
		}
	}
	if len(x.Snapshot(0)) != 1 || len(x.Snapshot(1)) != 1 {
		t.Errorf("%v", x.All())
	}
}

func TestOwnedAndCount(t *testing.T) {
	x := made(t, 3, 8)
	var keys []api.Key
	for i := range 9 {
		k := api.Key{Chan: (8 - i) % 3, Seq: uint64(i)}
		keys = append(keys, k)
		x.Do(op(api.OpInsert, 0, k))
	}
	for i, k := range keys[:6] {
		x.Do(op(api.OpClaim, 1+i%2, k))
	}
	x.Do(op(api.OpComplete, 1, keys[0]))
	for state, want := range map[int]int{api.StPending: 3, api.StClaimed: 5, api.StDone: 1, 0: 0, 4: 0, -1: 0} {
		if got := x.Count(state); got != want {
			t.Errorf("state %d: %d", state, got)
		}
	}
	want := []api.Key{keys[2], keys[4]}
	slices.SortFunc(want, func(a, b api.Key) int {
		if packet.Less(a, b) {
			return -1
		}
		return 1
	})
	if got := x.Owned(1); !slices.Equal(got, want) {
		t.Errorf("%v", got)
	}
	if len(x.Owned(2)) != 3 || len(x.Owned(0)) != 0 || len(x.Owned(3)) != 0 || len(x.Owned(-1)) != 0 {
		t.Errorf("%v, %v", x.Owned(2), x.Owned(0))
	}
}

// TestShardsMakeNoDifference but by ErrFull, which a great room keeps away.
func TestShardsMakeNoDifference(t *testing.T) {
	r := rand.New(rand.NewSource(5))
	var tables []*table.Table
	for n := 1; n <= api.MaxShards; n++ {
		tables = append(tables, made(t, n, 64))
	}
	for range 2000 {
		o := op(1+r.Intn(5), r.Intn(4), api.Key{Chan: r.Intn(2), Seq: uint64(r.Intn(5))})
		want := tables[0].Do(o)
		for _, x := range tables[1:] {
			if got := x.Do(o); got != want {
				t.Fatalf("%v: %v and %v", o, got, want)
			}
		}
	}
	for _, x := range tables {
		if !slices.Equal(x.All(), tables[0].All()) {
			t.Errorf("%v", x.All())
		}
	}
}

func TestNoTable(t *testing.T) {
	var x *table.Table
	for kind := range 12 {
		if r := x.Do(op(kind, 1, api.Key{})); r != (api.Ret{E: api.ErrArg}) {
			t.Errorf("%d: %v", kind, r)
		}
	}
	e, ok := x.Get(api.Key{})
	if ok || e != (api.Entry{}) || x.Shards() != 0 || len(x.Snapshot(0)) != 0 || len(x.All()) != 0 || len(x.Owned(1)) != 0 || x.Count(api.StPending) != 0 {
		t.Errorf("a table that nobody made tells something")
	}
}
