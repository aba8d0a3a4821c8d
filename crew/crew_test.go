package crew_test

import (
	"math/rand"
	"runtime"
	"slices"
	"testing"
	"time"

	"muleteer/api"
	"muleteer/conf"
	"muleteer/crew"
	"muleteer/relay"
	"muleteer/run"
)

func made(t *testing.T, c api.Config) *crew.Crew {
	t.Helper()
	w, e := crew.New(c)
	if e != api.OK || w == nil {
		t.Fatalf("New: %v", e)
	}
	return w
}

func pick(n int) api.Step { return api.Step{Kind: api.SpPick, N: n} }

var start = api.Step{Kind: api.SpStart}

func TestNew(t *testing.T) {
	for _, c := range []api.Config{{}, conf.Plain(0, 1)} {
		if w, e := crew.New(c); w != nil || e != api.ErrArg {
			t.Errorf("%v: %v", c, e)
		}
	}
	w := made(t, conf.Plain(1, 1))
	if w.Run().Relay().Status().Made != 0 || !slices.Equal(w.Close(), make([]int, relay.Keeper+1)) {
		t.Errorf("a crew's run is not new")
	}
}

func TestTheExample(t *testing.T) {
	w := made(t, conf.Plain(1, 1))
	for i, s := range []api.Step{start, pick(0), pick(1)} {
		if e := w.Do(s); e != api.OK {
			t.Errorf("%d: %v", i, e)
		}
	}
	if got := w.Close(); !slices.Equal(got, []int{1, 1, 0, 0, 0, 0, 0, 0, 0}) {
		t.Errorf("%v", got)
	}
}

func TestWhatIsDoneByWhom(t *testing.T) {
	w := made(t, conf.Plain(2, 1))
	do := func(s api.Step, want api.Errno) {
		t.Helper()
		if e := w.Do(s); e != want {
			t.Errorf("%v: %v", s, e)
		}
	}
	do(pick(0), api.ErrNone)
	do(start, api.OK)
	do(start, api.ErrState)
	do(api.Step{Kind: 9}, api.ErrArg)
	do(api.Step{Kind: api.SpPick, N: -1}, api.ErrArg)
	do(api.Step{Kind: api.SpTick, Side: 1}, api.OK)
	do(api.Step{Kind: api.SpCrash, N: 2}, api.OK)
	do(pick(3), api.OK)
	do(pick(3), api.OK)
	do(pick(2), api.OK)
	do(pick(4), api.OK)
	want := []int{1, 0, 0, 1, 0, 0, 0, 0, 2}
	got := w.Close()
	if !slices.Equal(got, want) {
		t.Errorf("%v", got)
	}
	got[0] = 99
	if again := w.Close(); !slices.Equal(again, want) {
		t.Errorf("closed once more: %v", again)
	}
	do(pick(0), api.ErrArg)
	do(api.Step{Kind: api.SpTick}, api.ErrArg)
	if w.Run().Relay().Site().World.Ticks() != 1 || !slices.Equal(w.Close(), want) {
		t.Errorf("something was done behind the end")
	}
}

func TestNoCrew(t *testing.T) {
	var w *crew.Crew
	if w.Do(start) != api.ErrArg || len(w.Close()) != 0 || w.Run() != nil {
		t.Errorf("a crew that nobody made tells something")
	}
}

func TestNoGoroutineIsLeft(t *testing.T) {
	before := runtime.NumGoroutine()
	for range 20 {
		w := made(t, conf.Plain(1, 1))
		w.Do(start)
		w.Do(pick(0))
		w.Close()
		crew.Play(conf.Plain(1, 1), []api.Step{start, pick(1)})
		crew.Play(conf.Plain(1, 1), make([]api.Step, api.MaxList+1))
		crew.Play(api.Config{}, nil)
	}
	// What has told that it ends may still stand for a moment.
	for i := 0; runtime.NumGoroutine() > before && i < 100; i++ {
		time.Sleep(time.Millisecond)
	}
	if n := runtime.NumGoroutine(); n > before {
		t.Errorf("%d goroutines, not %d", n, before)
	}
}

func TestPlayErrors(t *testing.T) {
	long := make([]api.Step, api.MaxList+1)
	if r, l, n, e := crew.Play(api.Config{}, long); r != nil || len(l) != 0 || len(n) != 0 || e != api.ErrArg {
		t.Errorf("%v", e)
	}
	if r, l, n, e := crew.Play(conf.Plain(1, 1), long); r != nil || len(l) != 0 || len(n) != 0 || e != api.ErrFull {
		t.Errorf("%v", e)
	}
	if r, l, n, e := crew.Play(conf.Plain(1, 1), long[1:]); r == nil || len(l) != api.MaxList || l[0] != api.ErrArg || len(n) != relay.Keeper+1 || e != api.OK {
		t.Errorf("as many as may be: %v", e)
	}
	if r, l, n, e := crew.Play(conf.Plain(1, 1), nil); r == nil || len(l) != 0 || len(n) != relay.Keeper+1 || e != api.OK {
		t.Errorf("%v", e)
	}
}

// TestWhoeverDoesIt: by one or by many a script comes to the same.
func TestWhoeverDoesIt(t *testing.T) {
	for seed := range 10 {
		g := rand.New(rand.NewSource(int64(seed)))
		c := conf.Plain(2, 1+seed%2)
		c.Wait = seed % 3
		l := []api.Step{start}
		for range 600 {
			switch g.Intn(20) {
			case 0, 1:
				l = append(l, api.Step{Kind: api.SpSend, P: api.Packet{Chan: g.Intn(2), From: g.Intn(2), Timeout: uint64(g.Intn(2) * g.Intn(60))}})
			case 2, 3, 4:
				l = append(l, api.Step{Kind: api.SpTick, Side: g.Intn(2)})
			case 5:
				l = append(l, []api.Step{{Kind: api.SpCrash, N: g.Intn(4)}, {Kind: api.SpReject}, {Kind: api.SpStop}, start, {Kind: api.SpForeign, N: 1}, {}}[g.Intn(6)])
			default:
				l = append(l, pick(g.Intn(1000)))
			}
		}
		one, first, e := run.Play(c, l)
		many, second, steps, f := crew.Play(c, l)
		if e != f || !slices.Equal(first, second) {
			t.Fatalf("seed %d: %v, %v", seed, e, f)
		}
		a, b := one.Relay(), many.Relay()
		if !slices.Equal(a.Site().Hist.Records(), b.Site().Hist.Records()) || !slices.Equal(a.Site().World.Marks(), b.Site().World.Marks()) ||
			!slices.Equal(a.Site().Table.All(), b.Site().Table.All()) || !slices.Equal(a.Exits(), b.Exits()) {
			t.Errorf("seed %d: two runs", seed)
		}
		picked := 0
		for i, s := range l {
			if s.Kind == api.SpPick && first[i] == api.OK {
				picked++
			}
		}
		all := 0
		for _, n := range steps {
			all += n
		}
		if all != picked || all == 0 {
			t.Errorf("seed %d: %d steps of %d", seed, all, picked)
		}
	}
}
