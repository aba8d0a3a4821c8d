package shard_test

import (
	"math"
	"slices"
	"sync"
	"testing"

	"muleteer/api"
	"muleteer/packet"
	"muleteer/shard"
)

var k, other = api.Key{Chan: 1, Seq: 5}, api.Key{Chan: 1, From: 1, Seq: 5}

func made(t *testing.T, room int) *shard.Shard {
	t.Helper()
	s, e := shard.New(room)
	if e != api.OK || s == nil {
		t.Fatalf("New(%d): %v", room, e)
	}
	return s
}

// in makes a shard with an entry of k that is pending, claimed by 7, or done.
func in(t *testing.T, state int) *shard.Shard {
	t.Helper()
	s := made(t, 4)
	s.Insert(k)
	if state != api.StPending {
		s.Claim(k, 7)
	}
	if state == api.StDone {
		s.Complete(k, 7)
	}
	return s
}

func entry(state int) api.Entry {
	x := api.Entry{Key: k, State: state}
	if state == api.StClaimed {
		x.Owner = 7
	}
	return x
}

func TestNew(t *testing.T) {
	for n, code := range map[int]api.Errno{math.MinInt: api.ErrArg, -1: api.ErrArg, 0: api.ErrArg, 1: api.OK, api.MaxRoom: api.OK, api.MaxRoom + 1: api.ErrArg, math.MaxInt: api.ErrArg} {
		if s, e := shard.New(n); e != code || (s != nil) != (code == api.OK) || s.Len() != 0 {
			t.Errorf("%d: %v", n, e)
		}
	}
}

func TestInsert(t *testing.T) {
	s := made(t, 2)
	if s.Insert(k) != api.OK || s.Len() != 1 {
		t.Errorf("the first one")
	}
	if s.Insert(k) != api.ErrExists {
		t.Errorf("once more")
	}
	if s.Insert(other) != api.OK || s.Insert(api.Key{}) != api.ErrFull || s.Insert(k) != api.ErrExists || s.Len() != 2 {
		t.Errorf("a full one")
	}
	if x, ok := s.Get(k); !ok || x != entry(api.StPending) {
		t.Errorf("%v, %v", x, ok)
	}
	if x, ok := s.Get(api.Key{}); ok || x != (api.Entry{}) {
		t.Errorf("%v, %v", x, ok)
	}
	for _, state := range []int{api.StPending, api.StClaimed, api.StDone} {
		s := in(t, state)
		if s.Insert(k) != api.ErrExists {
			t.Errorf("state %d", state)
		}
		if x, _ := s.Get(k); x != entry(state) {
			t.Errorf("state %d: %v", state, x)
		}
	}
}

// TestOperations does each operation in each state.
func TestOperations(t *testing.T) {
	claim := func(who int) func(s *shard.Shard) api.Errno {
		return func(s *shard.Shard) api.Errno { return s.Claim(k, who) }
	}
	release := func(who int) func(s *shard.Shard) api.Errno {
		return func(s *shard.Shard) api.Errno { return s.Release(k, who) }
	}
	complete := func(who int) func(s *shard.Shard) api.Errno {
		return func(s *shard.Shard) api.Errno { return s.Complete(k, who) }
	}
	expire := func(s *shard.Shard) api.Errno { return s.Expire(k) }
	for i, x := range []struct {
		do    func(s *shard.Shard) api.Errno
		state int
		code  api.Errno
		then  api.Entry
	}{
		{claim(7), api.StPending, api.OK, entry(api.StClaimed)},
		{claim(0), api.StPending, api.ErrArg, entry(api.StPending)},
		{claim(math.MinInt), api.StPending, api.ErrArg, entry(api.StPending)},
		{claim(math.MaxInt), api.StPending, api.OK, api.Entry{Key: k, State: api.StClaimed, Owner: math.MaxInt}},
		{claim(7), api.StClaimed, api.ErrState, entry(api.StClaimed)},
		{claim(8), api.StClaimed, api.ErrState, entry(api.StClaimed)},
		{claim(-1), api.StClaimed, api.ErrArg, entry(api.StClaimed)},
		{claim(7), api.StDone, api.ErrState, entry(api.StDone)},
		{release(7), api.StPending, api.ErrState, entry(api.StPending)},
		{release(0), api.StPending, api.ErrState, entry(api.StPending)},
		{release(7), api.StClaimed, api.OK, entry(api.StPending)},
		{release(8), api.StClaimed, api.ErrNotOwner, entry(api.StClaimed)},
		{release(0), api.StClaimed, api.ErrNotOwner, entry(api.StClaimed)},
		{release(7), api.StDone, api.ErrState, entry(api.StDone)},
		{complete(7), api.StPending, api.ErrState, entry(api.StPending)},
		{complete(7), api.StClaimed, api.OK, entry(api.StDone)},
		{complete(8), api.StClaimed, api.ErrNotOwner, entry(api.StClaimed)},
		{complete(-1), api.StClaimed, api.ErrNotOwner, entry(api.StClaimed)},
		{complete(7), api.StDone, api.ErrState, entry(api.StDone)},
		{expire, api.StPending, api.ErrState, entry(api.StPending)},
		{expire, api.StClaimed, api.ErrState, entry(api.StClaimed)},
		{expire, api.StDone, api.OK, api.Entry{}},
	} {
		s := in(t, x.state)
		s.Insert(other)
		s.Claim(other, 9)
		if e := x.do(s); e != x.code {
			t.Errorf("%d: %v", i, e)
		}
		if got, ok := s.Get(k); got != x.then || ok != (x.then != api.Entry{}) {
			t.Errorf("%d: %v", i, got)
		}
		if got, _ := s.Get(other); got != (api.Entry{Key: other, State: api.StClaimed, Owner: 9}) {
			t.Errorf("%d: the other entry is %v", i, got)
		}
	}
}

func TestOperationsOnNothing(t *testing.T) {
	s := made(t, 4)
	s.Insert(other)
	if s.Claim(k, 7) != api.ErrNone || s.Claim(k, 0) != api.ErrArg || s.Release(k, 7) != api.ErrNone || s.Complete(k, 0) != api.ErrNone || s.Expire(k) != api.ErrNone || s.Len() != 1 {
		t.Errorf("an entry that there is not")
	}
}

func TestTheExample(t *testing.T) {
	s := made(t, 1)
	if s.Insert(k) != api.OK || s.Claim(k, 7) != api.OK || s.Release(k, 8) != api.ErrNotOwner {
		t.Errorf("Insert, Claim by 7, Release by 8")
	}
}

func TestThereIsRoomAgainBehindExpire(t *testing.T) {
	s := made(t, 1)
	for range 3 {
		if s.Insert(k) != api.OK || s.Insert(other) != api.ErrFull || s.Claim(k, 1) != api.OK || s.Complete(k, 1) != api.OK || s.Insert(other) != api.ErrFull || s.Expire(k) != api.OK || s.Len() != 0 {
			t.Errorf("an entry's way")
		}
	}
}

func TestSnapshot(t *testing.T) {
	s := made(t, api.MaxRoom)
	var want []api.Entry
	for i := range 40 {
		key := api.Key{Chan: i * 7 % 4, From: i % 2, Seq: uint64(i * 11 % 17)}
		if s.Insert(key) == api.OK {
			want = append(want, api.Entry{Key: key, State: api.StPending})
		}
	}
	slices.SortFunc(want, func(a, b api.Entry) int {
		if packet.Less(a.Key, b.Key) {
			return -1
		}
		return 1
	})
	s.Claim(want[3].Key, 5)
	want[3].State, want[3].Owner = api.StClaimed, 5
	if got := s.Snapshot(); !slices.Equal(got, want) || s.Len() != len(want) {
		t.Errorf("%v", got)
	}
	s.Snapshot()[0].State = api.StDone
	if got := s.Snapshot(); !slices.Equal(got, want) {
		t.Errorf("a snapshot shares memory with the shard")
	}
}

func TestNoShard(t *testing.T) {
	var s *shard.Shard
	x, ok := s.Get(k)
	if s.Insert(k) != api.ErrArg || s.Claim(k, 1) != api.ErrArg || s.Release(k, 1) != api.ErrArg || s.Complete(k, 1) != api.ErrArg || s.Expire(k) != api.ErrArg ||
		ok || x != (api.Entry{}) || s.Len() != 0 || len(s.Snapshot()) != 0 {
		t.Errorf("a shard that nobody made tells something")
	}
}

// TestManyAtOnce: of many who claim one entry at one time just one has it.
func TestManyAtOnce(t *testing.T) {
	s := made(t, api.MaxRoom)
	var group sync.WaitGroup
	won := make([]int, 8)
	for who := range won {
		group.Go(func() {
			for seq := range uint64(50) {
				key := api.Key{Seq: seq}
				s.Insert(key)
				if s.Claim(key, who+1) == api.OK {
					won[who]++
				}
				s.Snapshot()
				s.Len()
				s.Get(key)
			}
		})
	}
	group.Wait()
	all := 0
	for _, n := range won {
		all += n
	}
	if all != 50 || s.Len() != 50 {
		t.Errorf("%v, %d", won, s.Len())
	}
}
