package hist_test

import (
	"math"
	"math/rand"
	"slices"
	"testing"

	"muleteer/api"
	"muleteer/conf"
	"muleteer/hist"
	"muleteer/spec"
)

var c = conf.Plain(1, 1)

var k = api.Key{Seq: 1}

var insert = api.Op{Kind: api.OpInsert, Key: k}

func claim(who int) api.Op { return api.Op{Kind: api.OpClaim, Who: who, Key: k} }

// rec is an operation that told an error's number, from a time to another one.
func rec(o api.Op, code api.Errno, begin, end int) api.Rec {
	return api.Rec{Op: o, Ret: api.Ret{E: code}, Begin: begin, Done: begin, End: end}
}

func TestLog(t *testing.T) {
	l := hist.New()
	if len(l.Records()) != 0 || len(l.Order()) != 0 {
		t.Errorf("a new log: %v", l.Records())
	}
	r := api.Ret{E: api.ErrFull, N: 7}
	if a, b := l.Begin(insert), l.Begin(claim(2)); a != 0 || b != 1 {
		t.Errorf("%d, %d", a, b)
	}
	if e := l.End(1); e != api.ErrState {
		t.Errorf("End ahead of Done: %v", e)
	}
	if l.Done(1, r) != api.OK || l.Done(1, api.Ret{}) != api.ErrState {
		t.Errorf("Done")
	}
	if n := l.Begin(insert); n != 2 {
		t.Errorf("%d", n)
	}
	if l.Done(0, api.Ret{}) != api.OK || l.End(1) != api.OK || l.End(1) != api.ErrState || l.Done(1, r) != api.ErrState {
		t.Errorf("End")
	}
	for _, n := range []int{-1, 3, math.MinInt, math.MaxInt} {
		if l.Done(n, r) != api.ErrArg || l.End(n) != api.ErrArg {
			t.Errorf("%d", n)
		}
	}
	want := []api.Rec{
		{Op: insert, Begin: 0, Done: 4, End: api.None},
		{Op: claim(2), Ret: r, Begin: 1, Done: 2, End: 5},
		{Op: insert, Begin: 3, Done: api.None, End: api.None},
	}
	if got := l.Records(); !slices.Equal(got, want) {
		t.Errorf("%v", got)
	}
	if got := l.Order(); !slices.Equal(got, []int{1, 0}) {
		t.Errorf("%v", got)
	}
	l.Records()[0].Done = 99
	if got := l.Records(); !slices.Equal(got, want) {
		t.Errorf("Records share memory with the log")
	}
}

func TestNoLog(t *testing.T) {
	var l *hist.Log
	if l.Begin(insert) != api.None || l.Done(0, api.Ret{}) != api.ErrArg || l.End(0) != api.ErrArg || len(l.Records()) != 0 || len(l.Order()) != 0 {
		t.Errorf("a log that nobody made tells something")
	}
}

func TestExplains(t *testing.T) {
	cut := rec(insert, api.OK, 0, api.None)
	both := []api.Rec{rec(insert, api.ErrExists, 0, 2), rec(insert, api.OK, 1, 3)}
	behind := []api.Rec{rec(insert, api.OK, 0, 1), rec(claim(3), api.OK, 2, 3)}
	for i, x := range []struct {
		l     []api.Rec
		order []int
		want  bool
	}{
		{nil, nil, true},
		{nil, []int{0}, false},
		{both, []int{1, 0}, true},
		{both, []int{0, 1}, false},
		{both, []int{1}, false},
		{both, nil, false},
		{both, []int{1, 0, 1}, false},
		{both, []int{1, 0, 2}, false},
		{both, []int{1, -1, 0}, false},
		{both, []int{1, math.MaxInt, 0}, false},
		{behind, []int{0, 1}, true},
		{behind, []int{1, 0}, false},
		// One that was cut off is in it, or not, done or not.
		{[]api.Rec{cut, rec(claim(3), api.OK, 5, 6)}, []int{0, 1}, true},
		{[]api.Rec{cut, rec(claim(3), api.OK, 5, 6)}, []int{1}, false},
		{[]api.Rec{cut, rec(claim(3), api.ErrNone, 5, 6)}, []int{1}, true},
		{[]api.Rec{cut, rec(claim(3), api.ErrNone, 5, 6)}, []int{1, 0}, true},
		{[]api.Rec{cut, rec(claim(3), api.ErrNone, 5, 6)}, []int{0, 1}, false},
		{[]api.Rec{cut}, []int{0, 0}, false},
		{[]api.Rec{cut}, nil, true},
		{[]api.Rec{rec(insert, api.ErrLate, 0, -7)}, []int{0}, true},
		// What was cut off may be ahead of what ended before it began? No: the one that ended stays ahead.
		{[]api.Rec{rec(claim(3), api.ErrNone, 0, 1), rec(insert, api.OK, 2, api.None)}, []int{0, 1}, true},
		{[]api.Rec{rec(claim(3), api.OK, 0, 1), rec(insert, api.OK, 2, api.None)}, []int{1, 0}, false},
		// At one time, in either order.
		{[]api.Rec{rec(insert, api.OK, 0, 5), rec(claim(3), api.OK, 5, 6)}, []int{0, 1}, true},
		{[]api.Rec{rec(claim(3), api.OK, 0, 5), rec(insert, api.OK, 5, 6)}, []int{1, 0}, true},
		{[]api.Rec{rec(claim(3), api.OK, 0, 4), rec(insert, api.OK, 5, 6)}, []int{1, 0}, false},
		// One that ended at 0 has ended.
		{[]api.Rec{rec(insert, api.ErrExists, -1, 0)}, nil, false},
		{[]api.Rec{rec(insert, api.ErrExists, -1, 0)}, []int{0}, false},
		{[]api.Rec{rec(insert, api.OK, -1, 0), rec(claim(3), api.OK, 1, 2)}, []int{1, 0}, false},
		{[]api.Rec{rec(insert, api.OK, -1, 0), rec(claim(3), api.OK, 1, 2)}, []int{0, 1}, true},
		// An error that was not the one.
		{[]api.Rec{rec(insert, api.ErrFull, 0, 1)}, []int{0}, false},
		{[]api.Rec{{Op: insert, Ret: api.Ret{N: 1}, End: 1}}, []int{0}, false},
	} {
		if got := hist.Explains(c, x.l, x.order); got != x.want {
			t.Errorf("%d: %v", i, got)
		}
	}
	if hist.Explains(api.Config{}, nil, nil) {
		t.Errorf("of a config that may not be")
	}
}

func TestFind(t *testing.T) {
	many := make([]api.Rec, 9)
	for i := range many {
		many[i] = rec(insert, api.ErrExists, i*2, i*2+1)
	}
	many[0].Ret.E = api.OK
	for i, x := range []struct {
		c    api.Config
		l    []api.Rec
		want []int
		e    api.Errno
	}{
		{api.Config{}, many, nil, api.ErrArg},
		{c, many, nil, api.ErrFull},
		{c, many[:8], []int{0, 1, 2, 3, 4, 5, 6, 7}, api.OK},
		{c, nil, nil, api.OK},
		{c, []api.Rec{rec(insert, api.ErrExists, 0, 2), rec(insert, api.OK, 1, 3)}, []int{1, 0}, api.OK},
		{c, []api.Rec{rec(insert, api.ErrExists, 0, 1), rec(insert, api.OK, 2, 3)}, nil, api.ErrNone},
		// What was cut off is left out, if it can be; the order that goes on is behind the one that it begins with.
		{c, []api.Rec{rec(insert, api.OK, 0, api.None)}, nil, api.OK},
		{c, []api.Rec{rec(insert, api.OK, 0, api.None), rec(claim(1), api.ErrNone, 0, 4)}, []int{1}, api.OK},
		{c, []api.Rec{rec(insert, api.OK, 0, api.None), rec(claim(1), api.OK, 0, 4)}, []int{0, 1}, api.OK},
		{c, []api.Rec{rec(claim(1), api.OK, 0, 4), rec(insert, api.OK, 0, api.None), rec(insert, api.OK, 0, api.None)}, []int{1, 0}, api.OK},
		// Number by number: 0 comes ahead of what would do without it.
		{c, []api.Rec{rec(claim(9), api.OK, 0, api.None), rec(insert, api.OK, 0, 4)}, []int{0, 1}, api.OK},
		{c, []api.Rec{rec(claim(9), api.ErrNone, 0, 9), rec(claim(8), api.ErrNone, 0, 9), rec(insert, api.OK, 0, 9)}, []int{0, 1, 2}, api.OK},
	} {
		order, e := hist.Find(x.c, x.l)
		if !slices.Equal(order, x.want) || e != x.e {
			t.Errorf("%d: %v, %v", i, order, e)
		}
	}
}

// TestFindTellsTheFirstOne holds Find against all orders there are, of up to four operations.
func TestFindTellsTheFirstOne(t *testing.T) {
	r := rand.New(rand.NewSource(9))
	found := 0
	for range 400 {
		var l []api.Rec
		for range 1 + r.Intn(4) {
			o := api.Op{Kind: 1 + r.Intn(4), Who: 1 + r.Intn(2), Key: k}
			x := rec(o, []api.Errno{api.OK, api.OK, api.ErrNone, api.ErrState, api.ErrExists}[r.Intn(5)], r.Intn(6), 0)
			x.End = x.Begin + 1 + r.Intn(5)
			if r.Intn(4) == 0 {
				x.End = api.None
			}
			l = append(l, x)
		}
		var first []int
		there := false
		var walk func(order []int)
		walk = func(order []int) {
			if there {
				return
			}
			if hist.Explains(c, l, order) {
				first, there = slices.Clone(order), true
				return
			}
			for n := range l {
				if !slices.Contains(order, n) {
					walk(append(slices.Clone(order), n))
				}
			}
		}
		walk(nil)
		order, e := hist.Find(c, l)
		if there != (e == api.OK) || !slices.Equal(order, first) || !there && e != api.ErrNone {
			t.Fatalf("%v: %v, %v, not %v", l, order, e, first)
		}
		if there {
			found++
		}
	}
	if found < 50 || found > 350 {
		t.Errorf("%d of 400 are explained", found)
	}
}

// TestOrderExplains: operations that are under way at one time, each done as an object does it.
func TestOrderExplains(t *testing.T) {
	r := rand.New(rand.NewSource(10))
	for range 30 {
		l := hist.New()
		o, _ := spec.New(c)
		var begun, done []int
		for range 200 {
			switch {
			case r.Intn(3) == 0 || len(begun)+len(done) == 0:
				begun = append(begun, l.Begin(api.Op{Kind: 1 + r.Intn(10), Who: r.Intn(3), Key: api.Key{Seq: uint64(r.Intn(3))}, Account: 1, N: uint64(r.Intn(4))}))
			case r.Intn(2) == 0 && len(begun) > 0:
				i := r.Intn(len(begun))
				n := begun[i]
				begun = slices.Delete(begun, i, i+1)
				l.Done(n, o.Do(l.Records()[n].Op))
				done = append(done, n)
			case len(done) > 0:
				i := r.Intn(len(done))
				l.End(done[i])
				done = slices.Delete(done, i, i+1)
			}
		}
		if !hist.Explains(c, l.Records(), l.Order()) {
			t.Fatalf("%v", l.Order())
		}
	}
}
