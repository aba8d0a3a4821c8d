package gap_test

import (
	"math/rand"
	"slices"
	"testing"

	"muleteer/api"
	"muleteer/gap"
)

func of(t *testing.T, numbers ...uint64) *gap.Heap {
	t.Helper()
	h := gap.New()
	for _, n := range numbers {
		if e := h.Put(n); e != api.OK {
			t.Fatalf("Put(%d): %v", n, e)
		}
	}
	return h
}

func taken(t *testing.T, h *gap.Heap, most, first, many uint64) {
	t.Helper()
	if f, m, e := h.Take(most); f != first || m != many || e != api.OK {
		t.Errorf("Take(%d): %d many %d, %v", most, f, m, e)
	}
}

func TestTheExample(t *testing.T) {
	h := of(t, 5, 3, 4, 9)
	if got := h.Runs(); !slices.Equal(got, []gap.Run{{First: 3, Many: 3}, {First: 9, Many: 1}}) || h.Len() != 4 {
		t.Errorf("%v", got)
	}
	taken(t, h, 2, 3, 2)
	taken(t, h, 2, 5, 1)
	taken(t, h, 1<<64-1, 9, 1)
	if f, m, e := h.Take(1); f != 0 || m != 0 || e != api.ErrNone {
		t.Errorf("of nothing: %d, %d, %v", f, m, e)
	}
}

func TestErrors(t *testing.T) {
	h := of(t, 0, api.Top-1)
	for n, code := range map[uint64]api.Errno{0: api.ErrExists, api.Top - 1: api.ErrExists, api.Top: api.ErrRange} {
		if e := h.Put(n); e != code {
			t.Errorf("Put(%d): %v", n, e)
		}
	}
	if f, m, e := h.Take(0); f != 0 || m != 0 || e != api.ErrArg {
		t.Errorf("Take(0): %v", e)
	}
	if _, _, e := gap.New().Take(0); e != api.ErrArg {
		t.Errorf("Take(0) of nothing: %v", e)
	}
	if h.Len() != 2 || !h.Has(0) || !h.Has(api.Top-1) || h.Has(1) || h.Has(api.Top) || h.Has(api.Top-2) {
		t.Errorf("%v", h.Runs())
	}
}

func TestNoHeap(t *testing.T) {
	var h *gap.Heap
	h.Clear()
	_, _, e := h.Take(1)
	if h.Put(1) != api.ErrArg || h.Put(api.Top) != api.ErrArg || e != api.ErrArg || h.Has(1) || h.Len() != 0 || len(h.Runs()) != 0 {
		t.Errorf("a heap that nobody made tells something")
	}
}

func TestRunsGrowTogether(t *testing.T) {
	h := of(t, 1, 3)
	if len(h.Runs()) != 2 {
		t.Errorf("%v", h.Runs())
	}
	h.Put(2)
	if got := h.Runs(); !slices.Equal(got, []gap.Run{{First: 1, Many: 3}}) {
		t.Errorf("%v", got)
	}
	h.Put(0)
	h.Put(4)
	if got := h.Runs(); !slices.Equal(got, []gap.Run{{First: 0, Many: 5}}) {
		t.Errorf("%v", got)
	}
	h = of(t, api.Top-1, api.Top-3, api.Top-2)
	if got := h.Runs(); !slices.Equal(got, []gap.Run{{First: api.Top - 3, Many: 3}}) {
		t.Errorf("%v", got)
	}
	h.Runs()[0].First = 7
	if h.Has(7) || !h.Has(api.Top-3) {
		t.Errorf("Runs share memory with the heap")
	}
}

func TestClear(t *testing.T) {
	h := of(t, 7, 9, 8, 1)
	h.Clear()
	if h.Len() != 0 || len(h.Runs()) != 0 || h.Has(7) {
		t.Errorf("%v", h.Runs())
	}
	if e := h.Put(7); e != api.OK || h.Len() != 1 {
		t.Errorf("behind Clear: %v", e)
	}
}

// runs are the runs of a set.
func runs(set map[uint64]int) []gap.Run {
	var numbers []uint64
	for n := range set {
		numbers = append(numbers, n)
	}
	slices.Sort(numbers)
	var l []gap.Run
	for _, n := range numbers {
		if last := len(l) - 1; last >= 0 && l[last].First+l[last].Many == n {
			l[last].Many++
		} else {
			l = append(l, gap.Run{First: n, Many: 1})
		}
	}
	return l
}

func TestAHeapIsASet(t *testing.T) {
	r := rand.New(rand.NewSource(6))
	for range 30 {
		h, set := gap.New(), map[uint64]int{}
		for range 200 {
			if r.Intn(3) > 0 {
				n := uint64(r.Intn(30))
				e := h.Put(n)
				if had := set[n] > 0; had != (e == api.ErrExists) || !had && e != api.OK {
					t.Fatalf("Put(%d): %v", n, e)
				}
				set[n] = 1
			} else {
				before := h.Runs()
				most := uint64(1 + r.Intn(4))
				first, many, e := h.Take(most)
				if len(before) == 0 {
					if e != api.ErrNone {
						t.Fatalf("Take of nothing: %v", e)
					}
					continue
				}
				if e != api.OK || first != before[0].First || many != min(before[0].Many, most) {
					t.Fatalf("Take(%d) of %v: %d many %d, %v", most, before, first, many, e)
				}
				for n := first; n < first+many; n++ {
					if h.Has(n) {
						t.Fatalf("%d is still there", n)
					}
				}
				if r.Intn(2) == 0 {
					for n := first; n < first+many; n++ {
						h.Put(n)
					}
					if !slices.Equal(h.Runs(), before) {
						t.Fatalf("put back: %v, not %v", h.Runs(), before)
					}
					h.Take(most)
				}
				for n := first; n < first+many; n++ {
					delete(set, n)
				}
			}
			if !slices.Equal(h.Runs(), runs(set)) || h.Len() != uint64(len(set)) {
				t.Fatalf("%v, not %v", h.Runs(), runs(set))
			}
			for n := range uint64(32) {
				if h.Has(n) != (set[n] > 0) {
					t.Fatalf("Has(%d)", n)
				}
			}
		}
	}
}
