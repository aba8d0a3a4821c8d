package relay_test

import (
	"math"
	"math/rand"
	"slices"
	"testing"

	"muleteer/api"
	"muleteer/conf"
	"muleteer/plan"
	"muleteer/relay"
	"muleteer/worker"
)

func made(t *testing.T, c api.Config) *relay.Relay {
	t.Helper()
	r, e := relay.New(c)
	if e != api.OK || r == nil {
		t.Fatalf("New: %v", e)
	}
	return r
}

func started(t *testing.T, c api.Config) *relay.Relay {
	t.Helper()
	r := made(t, c)
	if e := r.Start(); e != api.OK {
		t.Fatalf("Start: %v", e)
	}
	return r
}

func same(a, b relay.Status) bool {
	return a.Running == b.Running && slices.Equal(a.Alive, b.Alive) && a.Busy == b.Busy && a.Made == b.Made && a.Ends == b.Ends &&
		a.Pending == b.Pending && a.Claimed == b.Claimed && a.Done == b.Done
}

func want(t *testing.T, r *relay.Relay, s relay.Status) {
	t.Helper()
	if got := r.Status(); !same(got, s) {
		t.Errorf("%v, not %v", got, s)
	}
}

// keep does the keeper's steps.
func keep(t *testing.T, r *relay.Relay) {
	t.Helper()
	for i := 0; r.Status().Busy; i++ {
		if e := r.Step(relay.Keeper); e != api.OK || i > 1000 {
			t.Fatalf("the keeper: %v", e)
		}
	}
}

func TestNewAndStart(t *testing.T) {
	if relay.Keeper != 8 {
		t.Errorf("the keeper is %d", relay.Keeper)
	}
	for _, c := range []api.Config{{}, conf.Plain(0, 1)} {
		if r, e := relay.New(c); r != nil || e != api.ErrArg {
			t.Errorf("%v: %v", c, e)
		}
	}
	r := made(t, conf.Plain(1, 1))
	want(t, r, relay.Status{})
	if len(r.Who()) != 0 || r.Worker(0) != nil || len(r.Exits()) != 0 || r.Stop() != api.ErrState {
		t.Errorf("a new relay: %v", r.Who())
	}
	if n, e := r.Pick(0); n != api.None || e != api.ErrNone {
		t.Errorf("Pick: %d, %v", n, e)
	}
	if r.Start() != api.OK || !slices.Equal(r.Who(), []int{0, 1}) || r.Start() != api.ErrState {
		t.Errorf("Start: %v", r.Who())
	}
	want(t, r, relay.Status{Running: true, Alive: []int{0, 1}, Made: 2})
	for d := range 2 {
		if w := r.Worker(d); w.Id() != d+1 || w.Direction() != d || w.Phase() != worker.Scanning {
			t.Errorf("direction %d: worker %d", d, w.Id())
		}
	}
	for _, d := range []int{-1, 2, 7, 8, math.MinInt, math.MaxInt} {
		if r.Worker(d) != nil || r.Crash(d) != api.ErrNone || r.Step(d) != api.ErrNone {
			t.Errorf("direction %d", d)
		}
	}
	want(t, r, relay.Status{Running: true, Alive: []int{0, 1}, Made: 2})
}

func TestNoRelay(t *testing.T) {
	var r *relay.Relay
	n, e := r.Pick(0)
	if r.Start() != api.ErrArg || r.Stop() != api.ErrArg || len(r.Who()) != 0 || n != api.None || e != api.ErrArg || r.Step(0) != api.ErrArg || r.Crash(0) != api.ErrArg ||
		r.Site() != nil || r.Worker(0) != nil || len(r.Exits()) != 0 {
		t.Errorf("a relay that nobody made tells something")
	}
	want(t, r, relay.Status{})
}

func TestPickAndStep(t *testing.T) {
	r := started(t, conf.Plain(2, 1))
	for _, x := range [][2]int{{0, 0}, {5, 1}, {math.MaxInt, 3}, {2, 2}} {
		if n, e := r.Pick(x[0]); n != x[1] || e != api.OK || r.Worker(n).Phase() != worker.Looking {
			t.Errorf("Pick(%d): %d, %v", x[0], n, e)
		}
	}
	if n, e := r.Pick(-1); n != api.None || e != api.ErrNone {
		t.Errorf("Pick(-1): %d, %v", n, e)
	}
	if r.Step(1) != api.OK || r.Step(1) != api.OK || r.Worker(1).Phase() != worker.Planning || r.Step(relay.Keeper) != api.ErrNone {
		t.Errorf("Step")
	}
	// Who crashed can't; behind the others the keeper can.
	if r.Crash(1) != api.OK || r.Crash(1) != api.ErrNone || !slices.Equal(r.Who(), []int{0, 2, 3, 8}) || r.Step(1) != api.ErrNone {
		t.Errorf("Crash: %v", r.Who())
	}
	if n, e := r.Pick(7); n != relay.Keeper || e != api.OK {
		t.Errorf("Pick(7): %d, %v", n, e)
	}
	want(t, r, relay.Status{Running: true, Alive: []int{0, 2, 3}, Busy: true, Made: 4, Ends: 1})
	if got := r.Exits(); !slices.Equal(got, []api.Exit{{Who: 2, How: api.ExCrash, Steps: 3}}) {
		t.Errorf("%v", got)
	}
	r.Exits()[0].Who = 9
	if r.Exits()[0].Who != 2 || r.Worker(1).Id() != 2 {
		t.Errorf("Exits share memory with the relay")
	}
	old := r.Worker(1)
	keep(t, r)
	if w := r.Worker(1); w == old || w.Id() != 5 || w.Direction() != 1 || w.Place() != 0 {
		t.Errorf("a new worker: %d", w.Id())
	}
	want(t, r, relay.Status{Running: true, Alive: []int{0, 1, 2, 3}, Made: 5, Ends: 1})
}

func TestAllDirections(t *testing.T) {
	r := started(t, conf.Plain(4, 1))
	if !slices.Equal(r.Who(), []int{0, 1, 2, 3, 4, 5, 6, 7}) {
		t.Errorf("%v", r.Who())
	}
	for d := range 8 {
		if n, e := r.Pick(d); n != d || e != api.OK {
			t.Errorf("Pick(%d): %d, %v", d, n, e)
		}
		r.Crash(d)
		keep(t, r)
		if w := r.Worker(d); w.Id() != 9+d || w.Direction() != d || w.Phase() != worker.Scanning {
			t.Errorf("direction %d: worker %d", d, w.Id())
		}
	}
	want(t, r, relay.Status{Running: true, Alive: []int{0, 1, 2, 3, 4, 5, 6, 7}, Made: 16, Ends: 8})
}

func TestStop(t *testing.T) {
	r := started(t, conf.Plain(1, 1))
	r.Crash(0)
	if r.Stop() != api.OK || r.Stop() != api.ErrState || r.Start() != api.ErrState {
		t.Errorf("Stop")
	}
	want(t, r, relay.Status{Alive: []int{1}, Busy: true, Made: 2, Ends: 1})
	keep(t, r)
	// The keeper asked for a worker, and none was made.
	want(t, r, relay.Status{Alive: []int{1}, Made: 2, Ends: 1})
	if r.Start() != api.ErrState || r.Step(1) != api.OK {
		t.Errorf("a worker lives")
	}
	want(t, r, relay.Status{Busy: true, Made: 2, Ends: 2})
	if got := r.Exits(); !slices.Equal(got, []api.Exit{{Who: 1, How: api.ExCrash}, {Who: 2, How: api.ExStopped, Steps: 1}}) {
		t.Errorf("%v", got)
	}
	if r.Start() != api.ErrState {
		t.Errorf("the keeper is busy")
	}
	keep(t, r)
	if len(r.Who()) != 0 || r.Start() != api.OK || r.Worker(0).Id() != 3 || r.Worker(1).Id() != 4 {
		t.Errorf("started anew: %v", r.Who())
	}
	// The new run has a token of its own.
	for range 30 {
		r.Pick(0)
	}
	want(t, r, relay.Status{Running: true, Alive: []int{0, 1}, Made: 4, Ends: 2})
}

func TestStatusCountsEntries(t *testing.T) {
	r := started(t, conf.Plain(1, 1))
	for i, kind := range []int{0, api.OpClaim, api.OpClaim, api.OpComplete, api.OpComplete, api.OpComplete} {
		k := api.Key{Seq: uint64(i)}
		r.Site().Do(api.Op{Kind: api.OpInsert, Key: k})
		if kind != 0 {
			r.Site().Do(api.Op{Kind: api.OpClaim, Who: 9, Key: k})
		}
		if kind == api.OpComplete {
			r.Site().Do(api.Op{Kind: api.OpComplete, Who: 9, Key: k})
		}
	}
	want(t, r, relay.Status{Running: true, Alive: []int{0, 1}, Made: 2, Pending: 1, Claimed: 2, Done: 3})
}

// TestACrashAnywhere: wherever a worker crashes, behind the keeper's steps each of its claims is pending or done, and it holds no number.
func TestACrashAnywhere(t *testing.T) {
	for at := range 120 {
		c := conf.Plain(1, 1)
		c.Wait, c.Batch = at%2, 1
		r := started(t, c)
		w := r.Site().World
		for i := range 60 {
			if i < 5 {
				w.Send(api.Packet{Data: "x", Timeout: uint64(i%2) * 9})
				w.Send(api.Packet{From: 1, Data: "y"})
			}
			if i < 10 {
				w.Tick(i % 2)
			}
		}
		for i := range at {
			r.Step(0)
			r.Step(1)
			if i%9 == 8 {
				w.Tick(0)
				w.Tick(1)
			}
		}
		table, alloc := r.Site().Table, r.Site().Alloc
		mine, others := table.Owned(1), table.Owned(2)
		keys := len(table.All())
		var theirs [2][]uint64
		for side := range 2 {
			theirs[side] = alloc.Held(side, 1, 2)
		}
		if e := r.Crash(0); e != api.OK {
			t.Fatalf("Crash: %v", e)
		}
		keep(t, r)
		for _, k := range mine {
			what, _ := plan.For(w, k)
			x, there := table.Get(k)
			if !there || (what == plan.Done) != (x.State == api.StDone) || (what != plan.Done) != (x.State == api.StPending) {
				t.Errorf("at %d: %v", at, x)
			}
		}
		if len(table.Owned(1)) != 0 || !slices.Equal(table.Owned(2), others) || len(table.All()) != keys {
			t.Errorf("at %d: %v", at, table.All())
		}
		for side := range 2 {
			if len(alloc.Held(side, 1, 1)) != 0 || !slices.Equal(alloc.Held(side, 1, 2), theirs[side]) {
				t.Errorf("at %d: %v", at, alloc.Held(side, 1, 1))
			}
		}
		if w := r.Worker(0); w.Id() != 3 || w.Phase() != worker.Scanning {
			t.Errorf("at %d: worker %d", at, w.Id())
		}
	}
}

// TestWhateverComes: no two workers have one number, there is one of a direction, and behind Stop all come to an end with nothing.
func TestWhateverComes(t *testing.T) {
	for seed := range 20 {
		g := rand.New(rand.NewSource(int64(seed)))
		c := conf.Plain(2, 1+seed%2)
		c.Wait, c.First = seed%3, uint64(seed)
		r := made(t, c)
		w := r.Site().World
		ids := map[int]int{}
		for range 3000 {
			switch g.Intn(30) {
			case 0, 1:
				w.Send(api.Packet{Chan: g.Intn(2), From: g.Intn(2), Timeout: uint64(g.Intn(2)) * uint64(g.Intn(200))})
			case 2, 3, 4, 5:
				w.Tick(g.Intn(2))
			case 6:
				r.Crash(g.Intn(5))
			case 7:
				w.Foreign(g.Intn(2), 1)
			case 8:
				w.Reject(g.Intn(2))
			case 9:
				if g.Intn(9) == 0 {
					r.Stop()
				}
			case 10:
				r.Start()
			default:
				r.Pick(g.Intn(9))
			}
			for d := range 4 {
				if x := r.Worker(d); x != nil {
					if other, ok := ids[x.Id()]; ok && other != d {
						t.Fatalf("seed %d: two workers have the number %d", seed, x.Id())
					}
					ids[x.Id()] = d
				}
			}
		}
		if len(ids) != r.Status().Made {
			t.Errorf("seed %d: %d workers of %d", seed, len(ids), r.Status().Made)
		}
		r.Stop()
		for i := 0; len(r.Who()) > 0; i++ {
			if r.Pick(i); i > 5000 {
				t.Fatalf("seed %d: no end", seed)
			}
		}
		s := r.Status()
		if s.Claimed != 0 || s.Ends != s.Made || s.Running || s.Busy {
			t.Errorf("seed %d: %v", seed, s)
		}
		for side := range 2 {
			for account := 1; account <= c.Accounts; account++ {
				for id := range ids {
					if len(r.Site().Alloc.Held(side, account, id)) != 0 {
						t.Errorf("seed %d: %d holds numbers", seed, id)
					}
				}
			}
		}
	}
}
