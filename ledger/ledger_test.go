package ledger_test

import (
	"math"
	"reflect"
	"slices"
	"testing"

	"muleteer/api"
	"muleteer/conf"
	"muleteer/fault"
	"muleteer/ledger"
	"muleteer/packet"
)

// both are the ledgers of a config.
func both(t *testing.T, c api.Config) (l [2]*ledger.Ledger) {
	t.Helper()
	for side := range l {
		x, e := ledger.New(c, side)
		if e != api.OK || x == nil {
			t.Fatalf("New: %v", e)
		}
		l[side] = x
	}
	return l
}

// submit submits messages of an account, with the number that is expected.
func submit(t *testing.T, l *ledger.Ledger, account int, msgs ...api.Msg) {
	t.Helper()
	n, _ := l.Expected(account)
	if e := l.Submit(api.Tx{Side: l.Side(), Account: account, Nonce: n, Msgs: msgs}); e != nil {
		t.Fatalf("Submit: %v", e)
	}
}

// codes are what became of the messages of one transaction in the next block.
func codes(t *testing.T, l, other *ledger.Ledger, msgs ...api.Msg) []api.Errno {
	t.Helper()
	submit(t, l, 1, msgs...)
	results := l.Tick(other)
	if len(results) != 1 {
		t.Fatalf("%d results", len(results))
	}
	return results[0].Codes
}

func want(t *testing.T, what string, e error, code api.Errno, places ...int) {
	t.Helper()
	if fault.Code(e) != code || !slices.Equal(fault.Places(e), places) {
		t.Errorf("%s: %v", what, e)
	}
}

func send(channel, from int, timeout uint64, data string) api.Msg {
	return api.Msg{Kind: api.MsgSend, Packet: api.Packet{Chan: channel, From: from, Timeout: timeout, Data: data}}
}

func about(kind int, p api.Packet) api.Msg {
	m := api.Msg{Kind: kind, Packet: p}
	if kind == api.MsgAck {
		m.Ack = packet.Ack(p)
	}
	return m
}

func TestNew(t *testing.T) {
	for _, c := range []api.Config{{}, conf.Plain(0, 1), conf.Plain(1, 0), conf.Plain(1, 5)} {
		if l, e := ledger.New(c, 0); l != nil || e != api.ErrArg {
			t.Errorf("%v: %v", c, e)
		}
	}
	for _, side := range []int{-1, 2, math.MinInt, math.MaxInt} {
		if l, e := ledger.New(conf.Plain(1, 1), side); l != nil || e != api.ErrArg {
			t.Errorf("side %d: %v", side, e)
		}
	}
	c := conf.Plain(3, 2)
	c.First = 7
	l := both(t, c)[1]
	if l.Side() != 1 || l.Height() != 0 || !slices.Equal(l.Nonces(), []uint64{0, 7, 7}) || l.Waiting() != 0 {
		t.Errorf("%d, %d, %v, %d", l.Side(), l.Height(), l.Nonces(), l.Waiting())
	}
	for channel := -1; channel <= 3; channel++ {
		if end := l.Line(channel); (end != nil) != (channel >= 0 && channel < 3) || end.Ordered() != (channel == 1) {
			t.Errorf("the end of %d", channel)
		}
	}
	if len(l.Events()) != 0 || len(l.Results()) != 0 {
		t.Errorf("something has happened on a new ledger")
	}
}

func TestAnEmptyTransaction(t *testing.T) {
	l := both(t, conf.Plain(1, 1))
	submit(t, l[0], 1)
	results := l[0].Tick(l[1])
	if len(results) != 1 || results[0].Height != 1 || results[0].Nonce != 0 || results[0].Account != 1 || len(results[0].Codes) != 0 {
		t.Errorf("%v", results)
	}
	if !reflect.DeepEqual(l[0].Results(), results) || !slices.Equal(l[0].Nonces(), []uint64{0, 1}) {
		t.Errorf("%v, %v", l[0].Results(), l[0].Nonces())
	}
}

func TestSubmitErrors(t *testing.T) {
	c := conf.Plain(1, 1)
	c.Pool = 2
	l := both(t, c)
	var none *ledger.Ledger
	want(t, "no ledger", none.Submit(api.Tx{}), api.ErrArg, fault.Ledger)
	want(t, "not right", l[0].Submit(api.Tx{Account: -1}), api.ErrArg, fault.Ledger)
	want(t, "another side", l[0].Submit(api.Tx{Side: 1, Nonce: 5}), api.ErrArg, fault.Ledger)
	want(t, "a message to another side", l[0].Submit(api.Tx{Msgs: []api.Msg{send(0, 1, 0, "")}}), api.ErrArg, fault.Ledger)
	want(t, "no account", l[0].Submit(api.Tx{Account: 2}), api.ErrAccount, fault.Ledger, fault.Accounts)
	want(t, "above", l[0].Submit(api.Tx{Account: 1, Nonce: 1}), api.ErrNonce, fault.Ledger, fault.Accounts, fault.High)
	submit(t, l[0], 1)
	want(t, "below", l[0].Submit(api.Tx{Account: 1, Nonce: 0}), api.ErrNonce, fault.Ledger, fault.Accounts, fault.Low)
	want(t, "above what waits", l[0].Submit(api.Tx{Account: 1, Nonce: 2}), api.ErrNonce, fault.Ledger, fault.Accounts, fault.High)
	want(t, "another account", l[0].Submit(api.Tx{Account: 0, Nonce: 1}), api.ErrNonce, fault.Ledger, fault.Accounts, fault.High)
	useless := []api.Msg{about(api.MsgAck, api.Packet{Seq: 1})}
	want(t, "redundant, and a wrong number", l[0].Submit(api.Tx{Account: 1, Nonce: 9, Msgs: useless}), api.ErrNonce, fault.Ledger, fault.Accounts, fault.High)
	want(t, "redundant", l[0].Submit(api.Tx{Account: 1, Nonce: 1, Msgs: useless}), api.ErrRedundant, fault.Ledger)
	submit(t, l[0], 0, send(0, 0, 0, "x"))
	want(t, "redundant, and a full pool", l[0].Submit(api.Tx{Account: 1, Nonce: 1, Msgs: useless}), api.ErrRedundant, fault.Ledger)
	want(t, "a full pool", l[0].Submit(api.Tx{Account: 1, Nonce: 1}), api.ErrPool, fault.Ledger, fault.Pool)
	if l[0].Waiting() != 2 || !l[0].Has(send(0, 0, 0, "x")) || l[0].Has(useless[0]) {
		t.Errorf("%d wait", l[0].Waiting())
	}
	if n, e := l[0].Expected(1); n != 1 || e != nil {
		t.Errorf("Expected: %d, %v", n, e)
	}
}

func TestExpected(t *testing.T) {
	c := conf.Plain(1, 2)
	c.First = api.Top - 1
	l := both(t, c)
	if n, e := l[0].Expected(2); n != api.Top-1 || e != nil {
		t.Errorf("%d, %v", n, e)
	}
	submit(t, l[0], 2)
	for account, code := range map[int]api.Errno{2: api.ErrExhausted, 3: api.ErrAccount, -1: api.ErrAccount, math.MaxInt: api.ErrAccount} {
		n, e := l[0].Expected(account)
		want(t, "Expected", e, code, fault.Ledger, fault.Accounts)
		if n != 0 {
			t.Errorf("%d: %d", account, n)
		}
	}
	want(t, "at its end", l[0].Submit(api.Tx{Account: 2, Nonce: api.Top}), api.ErrExhausted, fault.Ledger, fault.Accounts)
	l[0].Tick(l[1])
	if !slices.Equal(l[0].Nonces(), []uint64{0, api.Top - 1, api.Top}) {
		t.Errorf("%v", l[0].Nonces())
	}
}

func TestTick(t *testing.T) {
	c := conf.Plain(1, 2)
	c.Block, c.Pool = 2, 5
	l := both(t, c)
	for _, account := range []int{1, 2, 1, 0, 2} {
		submit(t, l[0], account)
	}
	var all []api.Result
	for height, want := range [][][2]uint64{{{1, 0}, {2, 0}}, {{1, 1}, {0, 0}}, {{2, 1}}, {}} {
		results := l[0].Tick(l[1])
		if len(results) != len(want) || l[0].Height() != uint64(height)+1 || l[1].Height() != 0 {
			t.Fatalf("block %d: %v", height+1, results)
		}
		for i, r := range results {
			if r.Height != uint64(height)+1 || uint64(r.Account) != want[i][0] || r.Nonce != want[i][1] {
				t.Errorf("block %d: %v", height+1, r)
			}
		}
		all = append(all, results...)
	}
	if !reflect.DeepEqual(l[0].Results(), all) || !slices.Equal(l[0].Nonces(), []uint64{1, 2, 2}) {
		t.Errorf("%v, %v", l[0].Results(), l[0].Nonces())
	}
	var none *ledger.Ledger
	if none.Tick(l[0]) != nil || len(l[0].Tick(nil)) != 0 || len(l[0].Tick(l[0])) != 0 || len(l[0].Tick(both(t, c)[0])) != 0 || l[0].Height() != 4 {
		t.Errorf("a block without the other ledger")
	}
}

// TestAPacketThatIsCarried looks at heights, events and codes all the way.
func TestAPacketThatIsCarried(t *testing.T) {
	l := both(t, conf.Plain(2, 1))
	for range 3 {
		l[1].Tick(l[0])
	}
	if got := codes(t, l[0], l[1], send(0, 0, 5, "x"), send(0, 0, 3, "late"), send(1, 0, 0, "y"), send(3, 0, 0, "z")); !slices.Equal(got, []api.Errno{api.OK, api.ErrLate, api.OK, api.ErrChannel}) {
		t.Fatalf("sent: %v", got)
	}
	p := api.Packet{Seq: 1, Timeout: 5, Data: "x"}
	q := api.Packet{Chan: 1, Seq: 1, Data: "y"}
	if got := codes(t, l[1], l[0], about(api.MsgRecv, p), about(api.MsgRecv, p), about(api.MsgRecv, api.Packet{Chan: 2, Seq: 1})); !slices.Equal(got, []api.Errno{api.OK, api.ErrRedundant, api.ErrChannel}) {
		t.Fatalf("received: %v", got)
	}
	other := about(api.MsgAck, p)
	other.Ack = "no"
	if got := codes(t, l[0], l[1], about(api.MsgTimeout, q), other, about(api.MsgAck, p)); !slices.Equal(got, []api.Errno{api.ErrEarly, api.ErrProof, api.OK}) {
		t.Fatalf("acknowledged: %v", got)
	}
	if got := l[0].Events(); !slices.Equal(got, []api.Event{
		{Kind: api.EvSend, Height: 1, Packet: p},
		{Kind: api.EvSend, Height: 1, Packet: q},
		{Kind: api.EvAck, Height: 2, Packet: p, Ack: packet.Ack(p)},
	}) {
		t.Errorf("%v", got)
	}
	if got := l[1].Events(); !slices.Equal(got, []api.Event{{Kind: api.EvRecv, Height: 4, Packet: p, Ack: packet.Ack(p)}}) {
		t.Errorf("%v", got)
	}
	if got, ok := l[0].Find(api.Key{Chan: 1, Seq: 1}); got != q || !ok {
		t.Errorf("Find: %v, %v", got, ok)
	}
	for _, k := range []api.Key{{Seq: 2}, {From: 1, Seq: 1}, {Chan: 2, Seq: 1}, {}} {
		if got, ok := l[0].Find(k); ok || got != (api.Packet{}) {
			t.Errorf("Find(%v): %v", k, got)
		}
	}
	if _, ok := l[1].Find(api.Key{Seq: 1}); ok {
		t.Errorf("found where it was not sent")
	}
	for i, x := range l[0].Events() {
		if got, ok := l[0].Event(i); !ok || got != x {
			t.Errorf("Event(%d): %v", i, got)
		}
	}
	for _, i := range []int{-1, 3, math.MinInt, math.MaxInt} {
		if got, ok := l[0].Event(i); ok || got != (api.Event{}) {
			t.Errorf("Event(%d): %v", i, got)
		}
	}
}

// TestHeights: what is received counts the block's own height, what is sent or timed out the other ledger's.
func TestHeights(t *testing.T) {
	l := both(t, conf.Plain(1, 1))
	codes(t, l[0], l[1], send(0, 0, 1, "a"), send(0, 0, 2, "b"))
	a, b := api.Packet{Seq: 1, Timeout: 1, Data: "a"}, api.Packet{Seq: 2, Timeout: 2, Data: "b"}
	if got := codes(t, l[0], l[1], about(api.MsgTimeout, a)); got[0] != api.ErrEarly {
		t.Errorf("at height 0: %v", got)
	}
	if got := codes(t, l[1], l[0], about(api.MsgRecv, a), about(api.MsgRecv, b)); !slices.Equal(got, []api.Errno{api.ErrLate, api.OK}) {
		t.Errorf("in block 1: %v", got)
	}
	if got := codes(t, l[0], l[1], about(api.MsgTimeout, b), about(api.MsgTimeout, a)); !slices.Equal(got, []api.Errno{api.ErrEarly, api.OK}) {
		t.Errorf("at height 1: %v", got)
	}
	l[1].Tick(l[0])
	if got := codes(t, l[0], l[1], about(api.MsgTimeout, b)); got[0] != api.ErrState {
		t.Errorf("what was received: %v", got)
	}
}

func TestAnEndThatCloses(t *testing.T) {
	l := both(t, conf.Plain(2, 1))
	codes(t, l[0], l[1], send(1, 0, 1, "a"), send(0, 0, 1, "b"), send(1, 0, 0, "c"))
	a, b := api.Packet{Chan: 1, Seq: 1, Timeout: 1, Data: "a"}, api.Packet{Seq: 1, Timeout: 1, Data: "b"}
	c := api.Packet{Chan: 1, Seq: 2, Data: "c"}
	l[1].Tick(l[0])
	if got := codes(t, l[0], l[1], about(api.MsgTimeout, b), about(api.MsgTimeout, a), about(api.MsgTimeout, a), send(1, 0, 0, "d")); !slices.Equal(got, []api.Errno{api.OK, api.OK, api.ErrClosed, api.ErrClosed}) {
		t.Fatalf("%v", got)
	}
	if got := l[0].Events()[3:]; !slices.Equal(got, []api.Event{
		{Kind: api.EvTimeout, Height: 2, Packet: b},
		{Kind: api.EvTimeout, Height: 2, Packet: a},
		{Kind: api.EvClose, Height: 2, Packet: a},
	}) {
		t.Errorf("%v", got)
	}
	// Nothing is redundant at an end that is closed, though no commitment is there.
	if l[0].Redundant(about(api.MsgTimeout, a)) || !l[0].Redundant(about(api.MsgTimeout, b)) {
		t.Errorf("Redundant")
	}
	if !l[0].Line(1).Closed() || l[0].Line(0).Closed() || l[1].Line(1).Closed() {
		t.Errorf("Closed")
	}
	// The other end receives as it did: the second one is out of turn.
	if got := codes(t, l[1], l[0], about(api.MsgRecv, c)); got[0] != api.ErrOrder {
		t.Errorf("%v", got)
	}
}

func TestRedundant(t *testing.T) {
	l := both(t, conf.Plain(1, 1))
	codes(t, l[0], l[1], send(0, 0, 0, "a"), send(0, 0, 0, "b"))
	a, b := api.Packet{Seq: 1, Data: "a"}, api.Packet{Seq: 2, Data: "b"}
	codes(t, l[1], l[0], about(api.MsgRecv, a))
	codes(t, l[0], l[1], about(api.MsgAck, a))
	for i, x := range []struct {
		side int
		m    api.Msg
		want bool
	}{
		{1, about(api.MsgRecv, a), true}, {1, about(api.MsgRecv, b), false},
		{0, about(api.MsgAck, a), true}, {0, about(api.MsgAck, b), false},
		{0, about(api.MsgTimeout, a), true}, {0, about(api.MsgTimeout, b), false},
		{0, about(api.MsgTimeout, api.Packet{Seq: 9}), true},
		{0, about(api.MsgTimeout, api.Packet{Chan: 1, Seq: 9}), false},
		{0, about(api.MsgTimeout, api.Packet{Chan: -1, Seq: 9}), false},
		{0, send(0, 0, 0, "a"), false},
		{0, api.Msg{}, false}, {0, api.Msg{Kind: 9}, false},
	} {
		if got := l[x.side].Redundant(x.m); got != x.want {
			t.Errorf("%d: %v", i, got)
		}
	}
	// One that is of use is enough.
	submit(t, l[0], 1, about(api.MsgAck, a), about(api.MsgTimeout, b))
	n, _ := l[0].Expected(1)
	want(t, "two useless ones", l[0].Submit(api.Tx{Account: 1, Nonce: n, Msgs: []api.Msg{about(api.MsgAck, a), about(api.MsgTimeout, a)}}), api.ErrRedundant, fault.Ledger)
}

func TestMemoryIsNotShared(t *testing.T) {
	c := conf.Plain(1, 1)
	l := both(t, c)
	c.Ordered[0] = true
	msgs := []api.Msg{send(0, 0, 0, "a")}
	submit(t, l[0], 1, msgs...)
	msgs[0].Packet.Data = "b"
	results := l[0].Tick(l[1])
	results[0].Codes[0] = api.ErrLate
	l[0].Results()[0].Codes[0] = api.ErrLate
	l[0].Events()[0].Height = 9
	l[0].Nonces()[0] = 9
	if x, _ := l[0].Event(0); x.Packet.Data != "a" || x.Height != 1 || l[0].Results()[0].Codes[0] != api.OK || l[0].Nonces()[0] != 0 {
		t.Errorf("%v, %v", x, l[0].Results())
	}
}

func TestNoLedger(t *testing.T) {
	var l *ledger.Ledger
	n, e := l.Expected(0)
	want(t, "Expected", e, api.ErrArg, fault.Ledger)
	_, had := l.Event(0)
	_, found := l.Find(api.Key{})
	if n != 0 || l.Side() != api.None || l.Height() != 0 || l.Line(0) != nil || len(l.Nonces()) != 0 || l.Has(api.Msg{}) || l.Waiting() != 0 ||
		l.Redundant(api.Msg{Kind: api.MsgAck}) || len(l.Events()) != 0 || had || len(l.Results()) != 0 || found {
		t.Errorf("a ledger that nobody made tells something")
	}
}

func TestNumbersAndHeightsRise(t *testing.T) {
	c := conf.Plain(2, 3)
	c.First, c.Pool, c.Block = 100, 3, 2
	l := both(t, c)
	for i := range 300 {
		side := i % 2
		account := i % 4
		n, _ := l[side].Expected(account)
		l[side].Submit(api.Tx{Side: side, Account: account, Nonce: n + uint64(i%3/2), Msgs: []api.Msg{send(i%3, side, 0, "")}})
		if l[side].Waiting() > 3 {
			t.Fatalf("%d wait", l[side].Waiting())
		}
		if i%5 < 2 {
			l[side].Tick(l[1-side])
		}
	}
	for side := range 2 {
		next := []uint64{0, 100, 100, 100}
		var height uint64
		for _, r := range l[side].Results() {
			if r.Nonce != next[r.Account] || r.Height < height {
				t.Fatalf("%v", r)
			}
			next[r.Account]++
			height = r.Height
		}
		if !slices.Equal(next, l[side].Nonces()) || len(l[side].Results()) == 0 {
			t.Errorf("%v, %v", next, l[side].Nonces())
		}
	}
}
