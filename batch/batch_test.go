package batch_test

import (
	"math"
	"slices"
	"testing"

	"muleteer/api"
	"muleteer/batch"
)

const most = api.MaxBatch * api.MaxTxs

// recv is a message to the ledger 1, late one to the ledger 0.
func recv(seq uint64) api.Msg { return api.Msg{Kind: api.MsgRecv, Packet: api.Packet{Seq: seq}} }
func late(seq uint64) api.Msg { return api.Msg{Kind: api.MsgTimeout, Packet: api.Packet{Seq: seq}} }

func made(t *testing.T, size, wait int) *batch.Batch {
	t.Helper()
	b, e := batch.New(size, wait)
	if e != api.OK || b == nil {
		t.Fatalf("New(%d, %d): %v", size, wait, e)
	}
	return b
}

func TestNew(t *testing.T) {
	for size, fine := range map[int]bool{math.MinInt: false, -1: false, 0: false, 1: true, most: true, most + 1: false, math.MaxInt: false} {
		for wait, also := range map[int]bool{math.MinInt: false, -1: false, 0: true, api.MaxWait: true, api.MaxWait + 1: false, math.MaxInt: false} {
			b, e := batch.New(size, wait)
			if (e == api.OK) != (fine && also) || (b != nil) != (fine && also) || e != api.OK && e != api.ErrArg {
				t.Errorf("%d, %d: %v", size, wait, e)
			}
		}
	}
}

func TestAdd(t *testing.T) {
	b := made(t, 2, 3)
	if e := b.Add(api.Msg{}, 1); e != api.ErrArg || b.Len() != 0 {
		t.Errorf("one that isn't right: %v", e)
	}
	if b.Add(recv(1), 1) != api.OK || b.Add(recv(1), 2) != api.ErrExists || b.Add(late(1), 2) != api.OK {
		t.Errorf("Add")
	}
	if b.Add(recv(1), 2) != api.ErrExists || b.Add(recv(2), 2) != api.ErrFull || b.Add(api.Msg{Kind: 9}, 2) != api.ErrArg {
		t.Errorf("Add to a full one")
	}
	if !slices.Equal(b.All(), []api.Msg{recv(1), late(1)}) || b.Len() != 2 || !b.Has(late(1)) || b.Has(late(2)) {
		t.Errorf("%v", b.All())
	}
	b.All()[0] = late(9)
	if !b.Has(recv(1)) {
		t.Errorf("All shares memory with the batch")
	}
	b.Clear()
	if b.Len() != 0 || len(b.All()) != 0 || b.Has(recv(1)) || b.Add(recv(1), 9) != api.OK {
		t.Errorf("behind Clear: %v", b.All())
	}
}

func TestDue(t *testing.T) {
	b := made(t, 2, 3)
	due := func(want map[uint64]bool) {
		t.Helper()
		for now, x := range want {
			if b.Due(now) != x {
				t.Errorf("%d messages at %d: %v", b.Len(), now, !x)
			}
		}
	}
	due(map[uint64]bool{0: false, 9: false, api.Top: false})
	b.Add(recv(1), 5)
	due(map[uint64]bool{0: false, 4: false, 5: false, 7: false, 8: true, 9: true, api.Top: true})
	b.Add(recv(2), 7)
	due(map[uint64]bool{0: true, 7: true, api.Top: true})
	b.Clear()
	due(map[uint64]bool{8: false, api.Top: false})
	b.Add(recv(1), api.Top-1)
	due(map[uint64]bool{0: false, api.Top - 1: false, api.Top: false})
	// The first one's time counts, not the last one's.
	b = made(t, 9, 3)
	b.Add(recv(1), 5)
	b.Add(recv(2), 8)
	due(map[uint64]bool{7: false, 8: true})
	b = made(t, 9, 0)
	b.Add(recv(1), 5)
	due(map[uint64]bool{0: true, 5: true, 6: true})
}

func TestNoBatch(t *testing.T) {
	var b *batch.Batch
	b.Clear()
	if b.Add(recv(1), 0) != api.ErrArg || b.Due(api.Top) || b.Len() != 0 || b.Has(recv(1)) || len(b.All()) != 0 {
		t.Errorf("a batch that nobody made tells something")
	}
}

func TestPart(t *testing.T) {
	var l []api.Msg
	for n := range 10 {
		for _, size := range []int{1, 2, 3, 10, 11, math.MaxInt} {
			parts := batch.Part(l, size)
			if !slices.Equal(slices.Concat(parts...), l) || len(parts) != n/size+min(1, n%size) {
				t.Errorf("%d by %d: %v", n, size, parts)
			}
			for i, p := range parts {
				if len(p) != size && (i < len(parts)-1 || len(p) == 0 || len(p) > size) {
					t.Errorf("%d by %d: %d in the part %d", n, size, len(p), i)
				}
			}
		}
		for _, size := range []int{0, -1, math.MinInt} {
			if len(batch.Part(l, size)) != 0 {
				t.Errorf("%d by %d", n, size)
			}
		}
		l = append(l, recv(uint64(n)))
	}
	parts := batch.Part(l, 4)
	parts[0][0] = late(9)
	_ = append(parts[0], late(9))
	if l[0] != recv(0) || l[4] != recv(4) || parts[1][0] != recv(4) {
		t.Errorf("parts share memory")
	}
}

func TestTo(t *testing.T) {
	odd := api.Msg{Kind: 9}
	l := []api.Msg{recv(1), late(1), odd, recv(2), {Kind: api.MsgAck, Packet: api.Packet{From: 1}}}
	for side, want := range map[int][]api.Msg{0: {l[1]}, 1: {l[0], l[3], l[4]}, api.None: {odd}, 2: nil, math.MinInt: nil} {
		if got := batch.To(l, side); !slices.Equal(got, want) {
			t.Errorf("to %d: %v", side, got)
		}
		if len(batch.To(nil, side)) != 0 {
			t.Errorf("nothing to %d", side)
		}
	}
	got := batch.To(l, 1)
	got[0] = odd
	if l[0] != recv(1) {
		t.Errorf("To shares memory")
	}
}
