package worker_test

import (
	"math"
	"slices"
	"testing"

	"muleteer/api"
	"muleteer/conf"
	"muleteer/hist"
	"muleteer/packet"
	"muleteer/token"
	"muleteer/worker"
)

// scene is a site, a worker of a direction of it, and its token.
type scene struct {
	*testing.T
	s *worker.Site
	w *worker.Worker
	k *token.Token
}

func open(t *testing.T, direction int, change func(c *api.Config)) scene {
	t.Helper()
	c := conf.Plain(2, 1)
	if change != nil {
		change(&c)
	}
	s, e := worker.At(c)
	if e != api.OK {
		t.Fatalf("At: %v", e)
	}
	k := token.New()
	w, e := worker.New(s, 1, direction, k)
	if e != api.OK {
		t.Fatalf("New: %v", e)
	}
	return scene{t, s, w, k}
}

// send sends packets on the channel 0, and ticks that ledger till they are.
func (x scene) send(from int, timeouts ...uint64) {
	x.Helper()
	for _, n := range timeouts {
		if e := x.s.World.Send(api.Packet{From: from, Timeout: n, Data: "x"}); e != nil {
			x.Fatalf("Send: %v", e)
		}
		x.s.World.Tick(from)
	}
}

// steps does steps, and holds the phases behind them against these.
func (x scene) steps(phases ...int) {
	x.Helper()
	for i, want := range phases {
		if on := x.w.Step(); on != (want != worker.Ended) || x.w.Phase() != want {
			x.Fatalf("step %d: phase %d, not %d, %v", i+1, x.w.Phase(), want, on)
		}
	}
}

// until does steps till the phase is another one, and then that one.
func (x scene) until(phase int) {
	x.Helper()
	for i := 0; x.w.Phase() == phase; i++ {
		if x.w.Step(); i > 1000 {
			x.Fatalf("no end of phase %d", phase)
		}
	}
	for i := 0; x.w.Phase() != phase; i++ {
		if x.w.Step(); i > 1000 {
			x.Fatalf("phase %d does not come", phase)
		}
	}
}

// told are the operations from a number on, and the errors that they told.
func (x scene) told(from int) (ops []api.Op, codes []api.Errno) {
	for _, r := range x.s.Hist.Records()[from:] {
		ops, codes = append(ops, r.Op), append(codes, r.Ret.E)
	}
	return ops, codes
}

// want holds the kinds of the operations from a number on, and the errors that they told, against these.
func (x scene) want(from int, kinds []int, codes ...api.Errno) {
	x.Helper()
	ops, got := x.told(from)
	var l []int
	for _, o := range ops {
		l = append(l, o.Kind)
		if o.Who != 1 {
			x.Errorf("%v is of another one", o)
		}
	}
	if len(codes) == 0 {
		codes = make([]api.Errno, len(kinds))
	}
	if !slices.Equal(l, kinds) || !slices.Equal(got, codes) {
		x.Errorf("operations %v told %v", l, got)
	}
}

func key(seq uint64) api.Key { return api.Key{Seq: seq} }

const (
	sc = worker.Scanning
	lo = worker.Looking
	pl = worker.Planning
	fl = worker.Flushing
	se = worker.Sending
	fr = worker.Freeing
)

func TestPhases(t *testing.T) {
	if !slices.Equal([]int{sc, lo, pl, fl, se, fr, worker.Ended}, []int{0, 1, 2, 3, 4, 5, 6}) {
		t.Errorf("the phases' numbers")
	}
}

func TestAt(t *testing.T) {
	for _, c := range []api.Config{{}, conf.Plain(0, 1)} {
		if s, e := worker.At(c); s != nil || e != api.ErrArg {
			t.Errorf("%v: %v", c, e)
		}
	}
	c := conf.Plain(2, 1)
	s, e := worker.At(c)
	if e != api.OK || !conf.Same(s.C, c) || s.World.Ticks() != 0 || s.Table.Shards() != 2 || len(s.Hist.Records()) != 0 {
		t.Fatalf("%v", e)
	}
	c.Ordered[0] = true
	if s.C.Ordered[0] {
		t.Errorf("a site shares memory with a config")
	}
	if n, ok := s.Alloc.Next(1, 1); n != 0 || !ok {
		t.Errorf("%d, %v", n, ok)
	}
}

func TestDo(t *testing.T) {
	x := open(t, 0, nil)
	insert := api.Op{Kind: api.OpInsert, Key: key(1)}
	reserve := api.Op{Kind: api.OpReserve, Who: 3, Account: 1, N: 2}
	if x.s.Do(insert) != (api.Ret{}) || x.s.Do(insert) != (api.Ret{E: api.ErrExists}) || x.s.Do(reserve) != (api.Ret{Many: 2}) {
		t.Errorf("Do")
	}
	for _, kind := range []int{0, -1, 11, math.MaxInt, math.MinInt} {
		if r := x.s.Do(api.Op{Kind: kind, Who: 1, Account: 1}); r != (api.Ret{E: api.ErrArg}) {
			t.Errorf("kind %d: %v", kind, r)
		}
	}
	if len(x.s.Hist.Records()) != 0 {
		t.Errorf("Do is noted")
	}
	var none *worker.Site
	if none.Do(insert) != (api.Ret{E: api.ErrArg}) || none.Begin(insert) != nil {
		t.Errorf("a site that nobody made")
	}
}

func TestAnOperationUnderWay(t *testing.T) {
	x := open(t, 0, nil)
	o := api.Op{Kind: api.OpInsert, Who: 9, Key: key(1)}
	r := x.s.Begin(o)
	if op, ret := r.Told(); op != o || ret != (api.Ret{}) || x.s.Table.Count(api.StPending) != 0 {
		t.Errorf("begun: %v, %v", op, ret)
	}
	q := x.s.Begin(o)
	if r.Step() || x.s.Table.Count(api.StPending) != 1 {
		t.Errorf("done")
	}
	if q.Step() {
		t.Errorf("done")
	}
	if op, ret := q.Told(); op != o || ret != (api.Ret{E: api.ErrExists}) {
		t.Errorf("%v, %v", op, ret)
	}
	if !q.Step() || !q.Step() || !r.Step() {
		t.Errorf("ended")
	}
	want := []api.Rec{{Op: o, Begin: 0, Done: 2, End: 5}, {Op: o, Ret: api.Ret{E: api.ErrExists}, Begin: 1, Done: 3, End: 4}}
	if got := x.s.Hist.Records(); !slices.Equal(got, want) {
		t.Errorf("%v", got)
	}
	var none *worker.Running
	if op, ret := none.Told(); none.Step() || op != (api.Op{}) || ret != (api.Ret{}) {
		t.Errorf("none")
	}
}

func TestNew(t *testing.T) {
	s, _ := worker.At(conf.Plain(2, 1))
	k := token.New()
	for i, x := range []struct {
		s             *worker.Site
		id, direction int
		k             *token.Token
		fine          bool
	}{
		{s, 1, 0, k, true}, {s, math.MaxInt, 3, k, true}, {nil, 1, 0, k, false}, {s, 0, 0, k, false}, {s, -1, 0, k, false}, {s, math.MinInt, 0, k, false},
		{s, 1, -1, k, false}, {s, 1, 4, k, false}, {s, 1, math.MaxInt, k, false}, {s, 1, math.MinInt, k, false}, {s, 1, 0, nil, false},
	} {
		w, e := worker.New(x.s, x.id, x.direction, x.k)
		if (w != nil) != x.fine || (e == api.OK) != x.fine || !x.fine && e != api.ErrArg {
			t.Errorf("%d: %v", i, e)
		}
		if x.fine && (w.Id() != x.id || w.Direction() != x.direction || w.Phase() != sc || len(w.Held()) != 0 || w.Waiting() != 0 || w.Place() != 0) {
			t.Errorf("%d: %d, %d, %d", i, w.Id(), w.Direction(), w.Phase())
		}
	}
}

func TestNoWorker(t *testing.T) {
	var w *worker.Worker
	if w.Step() || w.Id() != 0 || w.Direction() != api.None || w.Phase() != worker.Ended || len(w.Held()) != 0 || w.Waiting() != 0 || w.Place() != 0 {
		t.Errorf("a worker that nobody made tells something")
	}
}

func TestARoundInWhichNothingHappens(t *testing.T) {
	x := open(t, 0, nil)
	x.steps(lo, lo, pl, fl, sc, lo)
	x.want(0, nil)
}

// TestARoundStepByStep: a packet that is to be received.
func TestARoundStepByStep(t *testing.T) {
	x := open(t, 0, nil)
	x.send(0, 0)
	x.steps(sc, sc)
	if x.w.Place() != 0 || x.s.Table.Count(api.StPending) != 1 {
		t.Errorf("done, and not heard: %d", x.w.Place())
	}
	x.steps(sc)
	if x.w.Place() != 1 {
		t.Errorf("heard: %d", x.w.Place())
	}
	x.steps(lo, lo, pl, pl, pl)
	if x.s.Table.Count(api.StClaimed) != 1 || len(x.w.Held()) != 0 || x.w.Waiting() != 0 {
		t.Errorf("done, and not heard: %v", x.w.Held())
	}
	x.steps(pl)
	if !slices.Equal(x.w.Held(), []api.Key{key(1)}) || x.w.Waiting() != 1 {
		t.Errorf("heard: %v", x.w.Held())
	}
	x.w.Held()[0].Seq = 9
	x.steps(fl, se, se, se, se, se)
	if !slices.Equal(x.s.Alloc.Held(1, 1, 1), []uint64{0}) || x.s.World.Ledger(1).Waiting() != 0 {
		t.Errorf("reserved, and not sent: %v", x.s.Alloc.Held(1, 1, 1))
	}
	x.steps(se)
	if x.s.World.Ledger(1).Waiting() != 1 || len(x.s.Alloc.Held(1, 1, 1)) != 1 {
		t.Errorf("sent: %d", x.s.World.Ledger(1).Waiting())
	}
	x.steps(se, se)
	if len(x.s.Alloc.Held(1, 1, 1)) != 0 {
		t.Errorf("committed: %v", x.s.Alloc.Held(1, 1, 1))
	}
	// Nothing is left at the ledger 1: the next ledger; the step behind it frees.
	x.steps(se, se, fr)
	if !slices.Equal(x.w.Held(), []api.Key{key(1)}) {
		t.Errorf("%v", x.w.Held())
	}
	x.steps(fr)
	if len(x.w.Held()) != 0 || x.s.Table.Count(api.StClaimed) != 1 {
		t.Errorf("held no more, and not released: %v", x.w.Held())
	}
	x.steps(fr)
	if x.s.Table.Count(api.StPending) != 1 || x.w.Waiting() != 1 {
		t.Errorf("released")
	}
	x.steps(fr, sc)
	if x.w.Waiting() != 0 {
		t.Errorf("%d messages in the batch", x.w.Waiting())
	}
	ops, _ := x.told(0)
	if !slices.Equal(ops, []api.Op{
		{Kind: api.OpInsert, Who: 1, Key: key(1)},
		{Kind: api.OpClaim, Who: 1, Key: key(1)},
		{Kind: api.OpReserve, Who: 1, Side: 1, Account: 1, N: 1},
		{Kind: api.OpCommit, Who: 1, Side: 1, Account: 1},
		{Kind: api.OpRelease, Who: 1, Key: key(1)},
	}) {
		t.Errorf("%v", ops)
	}
	// What waits in the pool is waited for.
	x.steps(lo, lo, pl, pl, fl, sc)
	x.want(5, nil)
}

// TestAPacketAllTheWay: received, acknowledged, done, and expired.
func TestAPacketAllTheWay(t *testing.T) {
	x := open(t, 0, nil)
	x.send(0, 0)
	x.until(sc)
	x.s.World.Tick(1)
	if !x.s.World.Ledger(1).Line(0).Received(1) {
		t.Fatalf("not received")
	}
	n := len(x.s.Hist.Records())
	x.until(sc)
	x.want(n, []int{api.OpClaim, api.OpReserve, api.OpCommit, api.OpRelease})
	x.s.World.Tick(0)
	if len(x.s.World.Ledger(0).Line(0).Waiting()) != 0 {
		t.Fatalf("not acknowledged")
	}
	n = len(x.s.Hist.Records())
	// The EvAck is of no use; then nine steps, without a step between them.
	x.steps(sc, lo, lo, pl, pl, pl, pl, pl, pl)
	if x.s.Table.Count(api.StDone) != 1 || len(x.w.Held()) != 0 {
		t.Errorf("not done")
	}
	x.steps(pl, pl, pl, pl, fl, sc)
	x.want(n, []int{api.OpClaim, api.OpComplete, api.OpExpire})
	if len(x.s.Table.All()) != 0 {
		t.Errorf("%v", x.s.Table.All())
	}
}

func TestScan(t *testing.T) {
	x := open(t, 0, func(c *api.Config) { c.Scan = 3; c.Queue = 1 })
	x.send(0, 0)
	x.s.World.Send(api.Packet{Chan: 1})
	x.s.World.Tick(0)
	x.send(0, 0, 0)
	// One that is of no use takes one step; behind three the next phase comes.
	x.steps(sc, sc, sc, sc, sc, sc, sc, lo)
	if x.w.Place() != 3 || x.s.Table.Count(api.StPending) != 2 {
		t.Errorf("%d, %v", x.w.Place(), x.s.Table.All())
	}
	// In a new round it goes on where it was, and looks at as many again.
	x.send(0, 0, 0, 0)
	x.until(sc)
	x.steps(sc, sc, sc, sc, sc, sc, sc, sc, sc, lo)
	if x.w.Place() != 6 || x.s.Table.Count(api.StPending) != 5 {
		t.Errorf("%d", x.w.Place())
	}
}

func TestAFullTable(t *testing.T) {
	x := open(t, 0, func(c *api.Config) { c.Shards, c.Room = 1, 1 })
	x.s.Table.Do(api.Op{Kind: api.OpInsert, Key: api.Key{Chan: 1, Seq: 7}})
	x.send(0, 0)
	x.steps(sc, sc, lo)
	x.want(0, []int{api.OpInsert}, api.ErrFull)
	if x.w.Place() != 0 {
		t.Errorf("%d", x.w.Place())
	}
}

func TestAnEntryThatIsThereAlready(t *testing.T) {
	x := open(t, 0, nil)
	x.send(0, 0)
	x.s.Table.Do(api.Op{Kind: api.OpInsert, Key: key(1)})
	x.steps(sc, sc, sc, lo)
	x.want(0, []int{api.OpInsert}, api.ErrExists)
	if x.w.Place() != 1 {
		t.Errorf("%d", x.w.Place())
	}
}

func TestTheLine(t *testing.T) {
	x := open(t, 0, func(c *api.Config) { c.Queue, c.Shards, c.Room = 3, 3, 9 })
	// Keys of this direction, rising over all shards, that are pending or done; others are left alone.
	for _, k := range []api.Key{key(7), key(3), key(9), {From: 1, Seq: 1}, {Chan: 1, Seq: 1}, key(1), key(5)} {
		x.s.Table.Do(api.Op{Kind: api.OpInsert, Key: k})
	}
	x.s.Table.Do(api.Op{Kind: api.OpClaim, Who: 8, Key: key(1)})
	x.s.Table.Do(api.Op{Kind: api.OpClaim, Who: 8, Key: key(5)})
	x.s.Table.Do(api.Op{Kind: api.OpComplete, Who: 8, Key: key(5)})
	x.steps(lo, lo, lo, pl)
	x.until(fl)
	ops, codes := x.told(0)
	var keys []api.Key
	for _, o := range ops {
		keys = append(keys, o.Key)
	}
	x.want(0, []int{api.OpClaim, api.OpComplete, api.OpExpire, api.OpExpire, api.OpClaim, api.OpComplete, api.OpExpire})
	if !slices.Equal(keys, []api.Key{key(3), key(3), key(3), key(5), key(7), key(7), key(7)}) {
		t.Errorf("%v, %v", keys, codes)
	}
}

func TestAClaimThatFails(t *testing.T) {
	x := open(t, 0, nil)
	x.send(0, 0)
	x.steps(sc, sc, sc, lo, lo, pl)
	x.s.Table.Do(api.Op{Kind: api.OpClaim, Who: 8, Key: key(1)})
	x.steps(pl, pl, pl, fl, sc)
	x.want(0, []int{api.OpInsert, api.OpClaim}, api.OK, api.ErrState)
	if len(x.w.Held()) != 0 || x.w.Waiting() != 0 {
		t.Errorf("%v", x.w.Held())
	}
}

// TestWhatIsSeenCounts: an entry that was done when the shard was looked at is expired, whatever it is by then.
func TestWhatIsSeenCounts(t *testing.T) {
	x := open(t, 0, nil)
	done := func(kind int) { x.s.Table.Do(api.Op{Kind: kind, Who: 8, Key: key(1)}) }
	done(api.OpInsert)
	done(api.OpClaim)
	done(api.OpComplete)
	x.steps(lo, lo, pl)
	done(api.OpExpire)
	done(api.OpInsert)
	x.steps(pl, pl, pl, fl)
	x.want(0, []int{api.OpExpire}, api.ErrState)
}

func TestAFullBatch(t *testing.T) {
	x := open(t, 0, func(c *api.Config) { c.Batch, c.Txs = 1, 2 })
	x.send(0, 0, 0, 0)
	x.until(fl)
	if x.w.Waiting() != 2 || len(x.w.Held()) != 2 {
		t.Fatalf("%d, %v", x.w.Waiting(), x.w.Held())
	}
	x.until(fr)
	if x.s.World.Ledger(1).Waiting() != 2 {
		t.Errorf("%d wait", x.s.World.Ledger(1).Waiting())
	}
	ops, _ := x.told(5)
	if len(ops) != 3 || ops[0] != (api.Op{Kind: api.OpReserve, Who: 1, Side: 1, Account: 1, N: 2}) || ops[1].N != 0 || ops[2].N != 1 {
		t.Errorf("%v", ops)
	}
}

// TestTheLineIsANewOne: who stood in it behind a full batch comes in order again.
func TestTheLineIsANewOne(t *testing.T) {
	x := open(t, 0, func(c *api.Config) { c.Batch, c.Txs = 1, 1 })
	x.send(0, 0, 0)
	x.until(fl)
	x.until(sc)
	n := len(x.s.Hist.Records())
	// The first one waits in the pool; then the second one is claimed.
	x.steps(lo, lo, pl, pl, pl)
	ops, _ := x.told(n)
	if !slices.Equal(ops, []api.Op{{Kind: api.OpClaim, Who: 1, Key: key(2)}}) || x.s.Table.Count(api.StClaimed) != 0 {
		t.Errorf("%v", ops)
	}
}

func TestWait(t *testing.T) {
	x := open(t, 0, func(c *api.Config) { c.Wait = 2 })
	x.send(0, 0)
	x.until(fl)
	x.steps(sc)
	if !slices.Equal(x.w.Held(), []api.Key{key(1)}) || x.w.Waiting() != 1 {
		t.Errorf("%v", x.w.Held())
	}
	x.s.World.Tick(0)
	x.until(fl)
	x.steps(sc)
	x.s.World.Tick(1)
	x.until(fl)
	x.steps(se)
	x.until(sc)
	if len(x.w.Held()) != 0 || x.s.World.Ledger(1).Waiting() != 1 {
		t.Errorf("%v", x.w.Held())
	}
}

// TestBothLedgers: what goes to the ledger 0 is sent ahead of what goes to the ledger 1.
func TestBothLedgers(t *testing.T) {
	x := open(t, 0, func(c *api.Config) { c.Batch, c.Accounts = 1, 3 })
	x.send(0, 0, 0)
	p, _ := x.s.World.Ledger(0).Find(key(2))
	x.s.World.Submit(api.Tx{Side: 1, Account: 2, Msgs: []api.Msg{{Kind: api.MsgRecv, Packet: p}}})
	x.s.World.Tick(1)
	x.until(fl)
	n := len(x.s.Hist.Records())
	x.until(fr)
	ops, _ := x.told(n)
	if !slices.Equal(ops, []api.Op{
		{Kind: api.OpReserve, Who: 1, Account: 1, N: 1}, {Kind: api.OpCommit, Who: 1, Account: 1},
		{Kind: api.OpReserve, Who: 1, Side: 1, Account: 1, N: 1}, {Kind: api.OpCommit, Who: 1, Side: 1, Account: 1},
	}) {
		t.Errorf("%v", ops)
	}
	ack := api.Msg{Kind: api.MsgAck, Packet: p, Ack: packet.Ack(p)}
	if !x.s.World.Ledger(0).Has(ack) || x.s.World.Ledger(1).Waiting() != 1 {
		t.Errorf("%d, %d", x.s.World.Ledger(0).Waiting(), x.s.World.Ledger(1).Waiting())
	}
}

func TestTheAccountOfTheDirection(t *testing.T) {
	for direction, account := range []int{1, 2, 3, 1} {
		x := open(t, direction, func(c *api.Config) { c.Accounts = 3 })
		channel, from := conf.Dir(direction)
		x.s.World.Send(api.Packet{Chan: channel, From: from})
		x.s.World.Tick(from)
		x.until(fr)
		ops, _ := x.told(2)
		if len(ops) != 2 || ops[0].Account != account || ops[0].Side != 1-from || ops[1].Account != account {
			t.Errorf("%d: %v", direction, ops)
		}
	}
}

// TestNumbersThatComeInParts: what was given back comes first, and the rest is reserved behind it.
func TestNumbersThatComeInParts(t *testing.T) {
	x := open(t, 0, func(c *api.Config) { c.Batch, c.Txs = 1, 3 })
	x.send(0, 0, 0, 0)
	do := func(o api.Op) { o.Side, o.Account, o.Who = 1, 1, 9; x.s.Alloc.Do(o) }
	do(api.Op{Kind: api.OpReserve, N: 2})
	do(api.Op{Kind: api.OpReturn, N: 0})
	x.until(fl)
	n := len(x.s.Hist.Records())
	x.until(fr)
	ops, codes := x.told(n)
	var l [][2]uint64
	for _, o := range ops {
		l = append(l, [2]uint64{uint64(o.Kind), o.N})
	}
	// 0 is taken; 2 and 3 are ahead of what the ledger expects.
	want := [][2]uint64{{api.OpReserve, 3}, {api.OpCommit, 0}, {api.OpReserve, 2}, {api.OpReturn, 2}, {api.OpReturn, 3}}
	if !slices.Equal(l, want) || slices.Max(codes) != api.OK {
		t.Errorf("%v, %v", l, codes)
	}
	if x.s.World.Ledger(1).Waiting() != 1 || len(x.s.Alloc.Held(1, 1, 1)) != 0 {
		t.Errorf("%d wait", x.s.World.Ledger(1).Waiting())
	}
}

func TestARejectedOne(t *testing.T) {
	x := open(t, 0, nil)
	x.send(0, 0)
	x.s.World.Reject(1)
	x.until(fl)
	n := len(x.s.Hist.Records())
	x.until(sc)
	x.want(n, []int{api.OpReserve, api.OpReturn, api.OpRelease})
	if len(x.s.Alloc.Free(1, 1)) != 1 || x.s.World.Rejects(1) != 0 {
		t.Errorf("%v", x.s.Alloc.Free(1, 1))
	}
}

// TestAStaleOne: a number that was used from outside makes the numbers begin anew, and fences the other one.
func TestAStaleOne(t *testing.T) {
	x := open(t, 0, func(c *api.Config) { c.Batch = 1 })
	x.send(0, 0, 0)
	for range 3 {
		x.s.World.Foreign(1, 1)
	}
	x.until(fl)
	n := len(x.s.Hist.Records())
	x.until(fr)
	ops, _ := x.told(n)
	if !slices.Equal(ops, []api.Op{
		{Kind: api.OpReserve, Who: 1, Side: 1, Account: 1, N: 2},
		{Kind: api.OpResync, Who: 1, Side: 1, Account: 1, N: 3},
	}) {
		t.Errorf("%v", ops)
	}
	epoch, _ := x.s.Alloc.Epoch(1, 1)
	next, _ := x.s.Alloc.Next(1, 1)
	if epoch != 1 || next != 3 || x.s.World.Ledger(1).Waiting() != 3 {
		t.Errorf("epoch %d, next %d", epoch, next)
	}
	// With the new epoch's numbers it goes on.
	x.until(fr)
	if x.s.World.Ledger(1).Waiting() != 5 {
		t.Errorf("%d wait", x.s.World.Ledger(1).Waiting())
	}
}

func TestNoNumbersAreLeft(t *testing.T) {
	x := open(t, 0, func(c *api.Config) { c.First = api.Top })
	x.send(0, 0)
	x.until(fl)
	n := len(x.s.Hist.Records())
	// What is heard is the next ledger; the step behind it frees.
	x.steps(se, se, se, se, se, fr)
	x.until(sc)
	x.want(n, []int{api.OpReserve, api.OpRelease}, api.ErrExhausted, api.OK)
	if len(x.w.Held()) != 0 || x.w.Waiting() != 0 {
		t.Errorf("%v", x.w.Held())
	}
}

// TestTheNextLedger: nothing left at a ledger takes a step, and so does freeing behind the ledger 1; a refusal takes none beside the operation's.
func TestTheNextLedger(t *testing.T) {
	reserved := func(sides ...int) (l []api.Op) {
		for _, side := range sides {
			l = append(l, api.Op{Kind: api.OpReserve, Who: 1, Side: side, Account: 1, N: 1})
		}
		return l
	}
	commit := func(side int) api.Op { return api.Op{Kind: api.OpCommit, Who: 1, Side: side, Account: 1} }
	for i, c := range []struct {
		refused []int // the ledgers at which no number is left
		sending int   // the phase is Sending behind so many steps
		ops     []api.Op
	}{
		// Into it; three of OpReserve, one that sends, three of OpCommit, one to the next ledger, for each of both.
		{nil, 17, []api.Op{reserved(0)[0], commit(0), reserved(1)[0], commit(1)}},
		{[]int{0}, 12, []api.Op{reserved(0)[0], reserved(1)[0], commit(1)}},
		{[]int{1}, 12, []api.Op{reserved(0)[0], commit(0), reserved(1)[0]}},
		{[]int{0, 1}, 7, reserved(0, 1)},
	} {
		x := open(t, 0, func(c *api.Config) { c.Batch, c.Txs, c.Accounts = 1, 2, 3 })
		x.send(0, 0, 0)
		p, _ := x.s.World.Ledger(0).Find(key(2))
		x.s.World.Submit(api.Tx{Side: 1, Account: 2, Msgs: []api.Msg{{Kind: api.MsgRecv, Packet: p}}})
		x.s.World.Tick(1)
		for _, side := range c.refused {
			x.s.Do(api.Op{Kind: api.OpResync, Who: 9, Side: side, Account: 1, N: api.Top})
		}
		x.until(fl)
		n := len(x.s.Hist.Records())
		x.steps(append(slices.Repeat([]int{se}, c.sending), fr)...)
		if ops, _ := x.told(n); !slices.Equal(ops, c.ops) {
			t.Errorf("%d: %v", i, ops)
		}
	}
}

// TestNothingGoesToTheLedger1: what goes to the ledger 0 alone is sent; then the ledger 1 takes a step all the same.
func TestNothingGoesToTheLedger1(t *testing.T) {
	x := open(t, 0, nil)
	x.send(0, 0)
	x.until(sc)
	x.s.World.Tick(1)
	x.until(fl)
	x.steps(se, se, se, se, se, se, se, se, se, se, fr)
	if x.s.World.Ledger(0).Waiting() != 1 || x.s.World.Ledger(1).Waiting() != 0 {
		t.Errorf("%d, %d", x.s.World.Ledger(0).Waiting(), x.s.World.Ledger(1).Waiting())
	}
}

func TestATokenThatIsOff(t *testing.T) {
	x := open(t, 0, nil)
	x.k.Call(api.ErrStopped)
	x.steps(worker.Ended, worker.Ended)
	x = open(t, 0, nil)
	// In the other phases it plays no part.
	x.steps(lo)
	x.k.Call(api.ErrStopped)
	x.steps(lo, pl, fl, sc, worker.Ended)
}

func TestWhatIsHeldIsFreedAheadOfTheEnd(t *testing.T) {
	x := open(t, 0, func(c *api.Config) { c.Wait = 8 })
	x.send(0, 0, 0)
	x.until(fl)
	x.steps(sc)
	x.k.Call(api.ErrStopped)
	n := len(x.s.Hist.Records())
	x.steps(fr, fr, fr, fr, fr, fr, fr, worker.Ended)
	ops, _ := x.told(n)
	if !slices.Equal(ops, []api.Op{{Kind: api.OpRelease, Who: 1, Key: key(1)}, {Kind: api.OpRelease, Who: 1, Key: key(2)}}) || x.s.Table.Count(api.StPending) != 2 {
		t.Errorf("%v", ops)
	}
	if x.w.Waiting() != 0 {
		t.Errorf("%d messages in the batch", x.w.Waiting())
	}
	// A batch that is due is sent all the same; then the worker ends.
	x = open(t, 0, nil)
	x.send(0, 0)
	x.until(fl)
	x.k.Call(api.ErrStopped)
	x.until(fr)
	x.steps(fr, fr, fr, worker.Ended)
	if x.s.World.Ledger(1).Waiting() != 1 {
		t.Errorf("%d wait", x.s.World.Ledger(1).Waiting())
	}
}

// TestManyWorkers: whatever workers do, in whatever order, the log is explained, and each holds what it has claimed.
func TestManyWorkers(t *testing.T) {
	for seed := range 10 {
		c := conf.Plain(2, 1+seed%2)
		c.Room, c.Wait, c.Batch = 3, seed%3, 1+seed%3
		s, _ := worker.At(c)
		root := token.New()
		var l []*worker.Worker
		for direction := range conf.Workers(c) {
			w, _ := worker.New(s, direction+1, direction, root.Child())
			l = append(l, w)
		}
		for i := range 2000 {
			n := i*7919 + i*i*31 + seed
			l[n%len(l)].Step()
			switch n / 7 % 13 {
			case 0, 1:
				s.World.Tick(n / 3 % 2)
			case 2:
				s.World.Send(api.Packet{Chan: n % 2, From: n / 2 % 2, Timeout: uint64(n%3) * (s.World.Ledger(1-n/2%2).Height() + 5)})
			case 3:
				if n%5 == 0 {
					s.World.Foreign(n%2, 1)
				}
			}
			for j, w := range l {
				for _, k := range w.Held() {
					if x, ok := s.Table.Get(k); !ok || x.Owner != j+1 || conf.Number(k.Chan, k.From) != j {
						t.Fatalf("seed %d: %d holds %v", seed, j+1, x)
					}
				}
				for side := range 2 {
					if p := w.Phase(); p != se && p != fr && len(s.Alloc.Held(side, conf.Account(c, j), j+1)) != 0 {
						t.Fatalf("seed %d: %d holds numbers in phase %d", seed, j+1, p)
					}
				}
			}
		}
		if !hist.Explains(c, s.Hist.Records(), s.Hist.Order()) {
			t.Errorf("seed %d: not explained", seed)
		}
		root.Call(api.ErrStopped)
		for _, w := range l {
			for i := 0; w.Step(); i++ {
				if i > 500 {
					t.Fatalf("seed %d: no end", seed)
				}
			}
		}
		if s.Table.Count(api.StClaimed) != 0 {
			t.Errorf("seed %d: %v", seed, s.Table.All())
		}
	}
}
