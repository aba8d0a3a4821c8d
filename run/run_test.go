package run_test

import (
	"math"
	"math/rand"
	"slices"
	"strconv"
	"testing"

	"muleteer/api"
	"muleteer/conf"
	"muleteer/relay"
	"muleteer/run"
	"muleteer/step"
)

func made(t *testing.T, c api.Config) *run.Run {
	t.Helper()
	r, e := run.New(c)
	if e != api.OK || r == nil {
		t.Fatalf("New: %v", e)
	}
	return r
}

func script(t *testing.T, text string) []api.Step {
	t.Helper()
	l, wrong, e := step.Read(text)
	if e != api.OK {
		t.Fatalf("line %d: %v", wrong, e)
	}
	return l
}

func TestNew(t *testing.T) {
	for _, c := range []api.Config{{}, conf.Plain(0, 1)} {
		if r, e := run.New(c); r != nil || e != api.ErrArg {
			t.Errorf("%v: %v", c, e)
		}
		if r, l, e := run.Play(c, make([]api.Step, api.MaxList+1)); r != nil || len(l) != 0 || e != api.ErrArg {
			t.Errorf("%v: %v", c, e)
		}
	}
	if r := made(t, conf.Plain(1, 1)); r.Relay() == nil || r.Relay().Status().Running || r.Relay().Status().Made != 0 {
		t.Errorf("a run's relay is not new")
	}
}

func TestDo(t *testing.T) {
	c := conf.Plain(1, 1)
	c.Pool = 2
	r := made(t, c)
	w := r.Relay().Site().World
	for i, x := range []struct {
		line string
		code api.Errno
		then bool
	}{
		{"pick 0", api.ErrNone, true},
		{"stop", api.ErrState, true},
		{"crash 0", api.ErrNone, true},
		{"start", api.OK, r.Relay().Status().Made == 0},
		{"start", api.ErrState, true},
		{"send 0 0 0 41", api.OK, true},
		{"send 1 0 0 41", api.OK, true},
		{"send 0 0 0 41", api.ErrPool, true},
		{"foreign 0 2", api.ErrAccount, true},
		{"foreign 1 1", api.OK, true},
		{"reject 1", api.OK, true},
		{"tick 1", api.OK, true},
		{"pick 3", api.OK, true},
		{"crash 1", api.OK, true},
		{"crash 1", api.ErrNone, true},
		{"crash 7", api.ErrNone, true},
		{"pick 1", api.OK, true},
		{"start", api.ErrState, true},
		{"stop", api.OK, true},
		{"stop", api.ErrState, true},
	} {
		if code := r.Do(script(t, x.line+"\n")[0]); code != x.code {
			t.Errorf("%d: %s: %v", i, x.line, code)
		}
	}
	s := r.Relay().Status()
	if s.Made != 2 || s.Ends != 1 || s.Running || w.Ledger(0).Waiting() != 2 || w.Ledger(1).Height() != 1 || w.Rejects(1) != 1 || !slices.Equal(w.Ledger(1).Nonces(), []uint64{0, 1}) {
		t.Errorf("%v, %d wait, height %d", s, w.Ledger(0).Waiting(), w.Ledger(1).Height())
	}
	if r.Relay().Worker(1).Phase() != 1 || r.Relay().Worker(0).Phase() != 0 {
		t.Errorf("phases %d, %d", r.Relay().Worker(0).Phase(), r.Relay().Worker(1).Phase())
	}
}

func TestStepsThatAreNotRight(t *testing.T) {
	r := made(t, conf.Plain(1, 1))
	r.Do(api.Step{Kind: api.SpStart})
	before := r.Relay().Status()
	for i, s := range []api.Step{
		{}, {Kind: 9}, {Kind: math.MinInt}, {Kind: api.SpPick, N: -1}, {Kind: api.SpPick, Side: 1}, {Kind: api.SpTick, Side: 2}, {Kind: api.SpReject, Side: -1},
		{Kind: api.SpCrash, N: 8}, {Kind: api.SpForeign}, {Kind: api.SpStop, N: 1}, {Kind: api.SpSend, P: api.Packet{Seq: 1}}, {Kind: api.SpSend, P: api.Packet{From: 2}},
	} {
		if code := r.Do(s); code != api.ErrArg || r.Next(s) != api.None {
			t.Errorf("%d: %v, %d", i, code, r.Next(s))
		}
	}
	after := r.Relay().Status()
	if !slices.Equal(before.Alive, after.Alive) || after.Running != before.Running || r.Relay().Site().World.Ticks() != 0 || r.Relay().Worker(0).Phase() != 0 {
		t.Errorf("%v", after)
	}
}

func TestNoRun(t *testing.T) {
	var r *run.Run
	if r.Do(api.Step{Kind: api.SpStart}) != api.ErrArg || r.Next(api.Step{Kind: api.SpPick}) != api.None || r.Relay() != nil {
		t.Errorf("a run that nobody made tells something")
	}
}

func TestNext(t *testing.T) {
	r := made(t, conf.Plain(2, 1))
	pick := api.Step{Kind: api.SpPick, N: 6}
	if r.Next(pick) != api.None {
		t.Errorf("somebody of nobody")
	}
	r.Do(api.Step{Kind: api.SpStart})
	if r.Next(pick) != 2 || r.Next(pick) != 2 {
		t.Errorf("%d", r.Next(pick))
	}
	r.Do(api.Step{Kind: api.SpCrash, N: 2})
	if r.Next(pick) != 3 || r.Next(api.Step{Kind: api.SpPick, N: 3}) != relay.Keeper {
		t.Errorf("%d", r.Next(pick))
	}
	for kind := api.SpTick; kind <= api.SpStart; kind++ {
		if n := r.Next(api.Step{Kind: kind}); n != api.None {
			t.Errorf("kind %d: %d", kind, n)
		}
	}
}

func TestPlay(t *testing.T) {
	c := conf.Plain(1, 1)
	r, codes, e := run.Play(c, script(t, "start\nsend 0 0 0 41\ntick 0\npick 0\n"))
	if e != api.OK || !slices.Equal(codes, make([]api.Errno, 4)) || r.Relay().Site().World.Ledger(0).Height() != 1 {
		t.Errorf("%v, %v", codes, e)
	}
	if l := r.Relay().Site().Hist.Records(); len(l) != 1 || l[0].Op != (api.Op{Kind: api.OpInsert, Who: 1, Key: api.Key{Seq: 1}}) {
		t.Errorf("%v", l)
	}
	if r, codes, e := run.Play(c, nil); r == nil || len(codes) != 0 || e != api.OK {
		t.Errorf("nothing: %v, %v", codes, e)
	}
	if r, codes, e := run.Play(c, make([]api.Step, api.MaxList)); r == nil || len(codes) != api.MaxList || codes[7] != api.ErrArg || e != api.OK {
		t.Errorf("as many as may be: %d, %v", len(codes), e)
	}
	if r, codes, e := run.Play(c, make([]api.Step, api.MaxList+1)); r != nil || len(codes) != 0 || e != api.ErrFull {
		t.Errorf("too many: %d, %v", len(codes), e)
	}
}

// TestTheWayOfAPacketStepByStep: each step of a worker, from the begin to the round behind the one in which a packet is sent.
func TestTheWayOfAPacketStepByStep(t *testing.T) {
	r := made(t, api.Config{Ordered: []bool{false}, Accounts: 1, Shards: 1, Room: 1, Pool: 1, Block: 1, Batch: 1, Txs: 1, Scan: 1, Queue: 1})
	for i, s := range script(t, "start\nsend 0 0 0 -\ntick 0\n") {
		if code := r.Do(s); code != api.OK {
			t.Fatalf("%d: %v", i, code)
		}
	}
	phases := ""
	for range 24 {
		r.Do(api.Step{Kind: api.SpPick})
		phases += strconv.Itoa(r.Relay().Worker(0).Phase())
	}
	if phases != "0001"+"2222"+"3"+"4444444444"+"5555"+"0" {
		t.Errorf("%s", phases)
	}
	if n := r.Relay().Site().World.Ledger(1).Waiting(); n != 1 {
		t.Errorf("%d wait", n)
	}
}

// busy is a script in which much happens.
func busy() []api.Step {
	g := rand.New(rand.NewSource(11))
	l := []api.Step{{Kind: api.SpStart}}
	for range api.MaxList - 1 {
		switch g.Intn(11) {
		case 0:
			l = append(l, api.Step{Kind: api.SpSend, P: api.Packet{Chan: g.Intn(2), From: g.Intn(2), Timeout: uint64(g.Intn(3) * 20)}})
		case 1, 2:
			l = append(l, api.Step{Kind: api.SpTick, Side: g.Intn(2)})
		case 3:
			l = append(l, []api.Step{{Kind: api.SpCrash, N: g.Intn(4)}, {Kind: api.SpForeign, N: 1}, {Kind: api.SpReject, Side: 1}, {Kind: api.SpPick}}[g.Intn(4)])
		default:
			l = append(l, api.Step{Kind: api.SpPick, N: g.Intn(1000)})
		}
	}
	return l
}

func TestTheSameScriptMakesTheSameRun(t *testing.T) {
	c := conf.Plain(2, 1)
	a, first, _ := run.Play(c, busy())
	b, second, _ := run.Play(c, busy())
	if !slices.Equal(first, second) || !slices.Equal(a.Relay().Site().Hist.Records(), b.Relay().Site().Hist.Records()) ||
		!slices.Equal(a.Relay().Site().World.Marks(), b.Relay().Site().World.Marks()) || !slices.Equal(a.Relay().Exits(), b.Relay().Exits()) {
		t.Errorf("two runs")
	}
	one, _ := run.New(c)
	for i, s := range busy() {
		if code := one.Do(s); code != first[i] {
			t.Errorf("step %d: %v", i, code)
		}
	}
	if len(a.Relay().Site().World.Marks()) < 5 || len(a.Relay().Exits()) == 0 {
		t.Errorf("not much happened: %d marks", len(a.Relay().Site().World.Marks()))
	}
}
