package trace_test

import (
	"math"
	"math/rand"
	"slices"
	"strings"
	"testing"

	"muleteer/api"
	"muleteer/conf"
	"muleteer/packet"
	"muleteer/trace"
	"muleteer/world"
)

// The channels of these tests: 0 is unordered, 1 and 2 are ordered.
var ordered = []bool{false, true, true}

func mark(side, kind int, height uint64, p api.Packet) api.Mark {
	x := api.Event{Kind: kind, Height: height, Packet: p}
	if kind == api.EvRecv || kind == api.EvAck {
		x.Ack = packet.Ack(p)
	}
	return api.Mark{Side: side, Event: x}
}

// of is a mark where it belongs.
func of(kind int, p api.Packet) api.Mark {
	side := p.From
	if kind == api.EvRecv {
		side = 1 - side
	}
	return mark(side, kind, 3, p)
}

func pack(channel, from int, seq uint64) api.Packet {
	return api.Packet{Chan: channel, From: from, Seq: seq, Data: "x"}
}

func with(p api.Packet, timeout uint64, data string) api.Packet {
	p.Timeout, p.Data = timeout, data
	return p
}

func TestReasons(t *testing.T) {
	for i, name := range []string{"fine", "form", "side", "shut", "number", "unsent", "twice", "both", "late", "order", "unproved"} {
		if trace.Name(i) != name {
			t.Errorf("%d: %s", i, trace.Name(i))
		}
	}
	if l := []int{trace.Fine, trace.Form, trace.Side, trace.Shut, trace.Number, trace.Unsent, trace.Twice, trace.Both, trace.Late, trace.Order, trace.Unproved}; !slices.Equal(l, []int{0, 1, 2, 3, 4, 5, 6, 7, 8, 9, 10}) {
		t.Errorf("%v", l)
	}
	for _, n := range []int{-1, 11, math.MinInt, math.MaxInt} {
		if trace.Name(n) != "" {
			t.Errorf("%d: %s", n, trace.Name(n))
		}
	}
}

func TestWrong(t *testing.T) {
	p, q := pack(0, 0, 1), pack(1, 0, 1)
	second, far := pack(1, 0, 2), pack(1, 1, 1)
	late := with(p, 3, "x")
	sent := []api.Mark{of(api.EvSend, p), of(api.EvSend, q), of(api.EvSend, second), of(api.EvSend, far)}
	add := func(l []api.Mark, more ...api.Mark) []api.Mark { return append(slices.Clone(l), more...) }
	bad := of(api.EvSend, p)
	bad.Event.Ack = "x"
	long := of(api.EvRecv, p)
	long.Event.Ack = strings.Repeat("x", 65)
	forged := of(api.EvAck, p)
	forged.Event.Ack = "forged"
	closed := add(sent, of(api.EvTimeout, q), of(api.EvClose, q))
	for i, x := range []struct {
		ahead []api.Mark
		x     api.Mark
		want  int
	}{
		{nil, mark(-1, api.EvSend, 1, p), trace.Form},
		{nil, mark(2, api.EvSend, 1, p), trace.Form},
		{nil, mark(0, 0, 1, p), trace.Form},
		{nil, mark(0, 6, 1, p), trace.Form},
		{nil, bad, trace.Form},
		{sent, long, trace.Form},
		{nil, of(api.EvSend, pack(3, 0, 1)), trace.Form},
		{nil, of(api.EvSend, pack(-1, 0, 1)), trace.Form},
		{nil, mark(1, api.EvSend, 1, pack(3, 0, 1)), trace.Form},
		{nil, mark(1, api.EvSend, 1, pack(0, 0, 5)), trace.Side},
		{sent, mark(0, api.EvRecv, 1, p), trace.Side},
		{sent, mark(1, api.EvAck, 1, p), trace.Side},
		{sent, mark(1, api.EvTimeout, 1, p), trace.Side},
		{add(sent, of(api.EvTimeout, q)), mark(1, api.EvClose, 1, q), trace.Side},
		{closed, mark(1, api.EvSend, 1, q), trace.Side},
		{closed, of(api.EvSend, pack(1, 0, 3)), trace.Shut},
		{closed, of(api.EvSend, pack(1, 0, 9)), trace.Shut},
		{closed, of(api.EvAck, second), trace.Shut},
		{closed, of(api.EvTimeout, q), trace.Shut},
		{closed, of(api.EvRecv, far), trace.Shut},
		{closed, of(api.EvSend, pack(2, 0, 1)), trace.Fine},
		{closed, of(api.EvSend, pack(0, 0, 2)), trace.Fine},
		{closed, of(api.EvSend, pack(1, 1, 2)), trace.Fine},
		{closed, of(api.EvClose, q), trace.Shut},
		{sent, of(api.EvClose, q), trace.Shut},
		{nil, of(api.EvClose, q), trace.Shut},
		{add(sent, of(api.EvTimeout, p)), of(api.EvClose, p), trace.Shut},
		{add(sent, of(api.EvTimeout, q)), of(api.EvClose, second), trace.Shut},
		{add(sent, of(api.EvTimeout, q)), of(api.EvClose, with(q, 0, "y")), trace.Shut},
		{add(sent, of(api.EvTimeout, q), of(api.EvSend, pack(2, 0, 1))), of(api.EvClose, q), trace.Shut},
		{add(sent, mark(1, api.EvTimeout, 1, q)), of(api.EvClose, q), trace.Shut},
		{add(sent, of(api.EvTimeout, q)), of(api.EvClose, q), trace.Fine},
		{[]api.Mark{of(api.EvTimeout, q)}, of(api.EvClose, q), trace.Unsent},
		{nil, of(api.EvSend, pack(0, 0, 0)), trace.Number},
		{nil, of(api.EvSend, pack(0, 0, 2)), trace.Number},
		{nil, of(api.EvSend, p), trace.Fine},
		{sent, of(api.EvSend, p), trace.Number},
		{sent, of(api.EvSend, pack(1, 0, 3)), trace.Fine},
		{sent, of(api.EvSend, pack(1, 1, 3)), trace.Number},
		{nil, of(api.EvRecv, p), trace.Unsent},
		{nil, of(api.EvAck, p), trace.Unsent},
		{nil, of(api.EvTimeout, p), trace.Unsent},
		{sent, of(api.EvRecv, with(p, 0, "y")), trace.Unsent},
		{sent, of(api.EvRecv, with(p, 9, "x")), trace.Unsent},
		{[]api.Mark{mark(1, api.EvSend, 1, p)}, of(api.EvRecv, p), trace.Unsent},
		{sent, of(api.EvRecv, p), trace.Fine},
		{add(sent, of(api.EvRecv, p)), of(api.EvRecv, p), trace.Twice},
		{add(sent, of(api.EvRecv, with(p, 7, "z"))), of(api.EvRecv, p), trace.Twice},
		{add(sent, of(api.EvRecv, p), of(api.EvAck, p)), of(api.EvAck, p), trace.Twice},
		{add(sent, of(api.EvRecv, p), of(api.EvAck, p)), of(api.EvTimeout, p), trace.Twice},
		{add(sent, of(api.EvTimeout, p)), of(api.EvAck, p), trace.Twice},
		{add(sent, of(api.EvTimeout, p)), of(api.EvTimeout, p), trace.Twice},
		{add(sent, of(api.EvRecv, p)), of(api.EvTimeout, p), trace.Both},
		{add(sent, of(api.EvTimeout, p)), of(api.EvRecv, p), trace.Both},
		{sent, of(api.EvTimeout, p), trace.Fine},
		{[]api.Mark{of(api.EvSend, late)}, mark(1, api.EvRecv, 3, late), trace.Late},
		{[]api.Mark{of(api.EvSend, late)}, mark(1, api.EvRecv, api.Top, late), trace.Late},
		{[]api.Mark{of(api.EvSend, late)}, mark(1, api.EvRecv, 2, late), trace.Fine},
		{[]api.Mark{of(api.EvSend, with(p, 1, "x"))}, mark(1, api.EvRecv, 1, with(p, 1, "x")), trace.Late},
		{[]api.Mark{of(api.EvSend, with(p, 1, "x"))}, mark(1, api.EvRecv, 0, with(p, 1, "x")), trace.Fine},
		{[]api.Mark{of(api.EvSend, late), of(api.EvTimeout, late)}, mark(1, api.EvRecv, 3, late), trace.Both},
		{sent, of(api.EvRecv, second), trace.Order},
		{sent, of(api.EvRecv, q), trace.Fine},
		{add(sent, of(api.EvRecv, q)), of(api.EvRecv, second), trace.Fine},
		{add(sent, of(api.EvRecv, q), of(api.EvRecv, second)), of(api.EvAck, second), trace.Order},
		{add(sent, of(api.EvRecv, q), of(api.EvRecv, second), of(api.EvAck, q)), of(api.EvAck, second), trace.Fine},
		{sent, of(api.EvAck, second), trace.Order},
		{sent, of(api.EvAck, p), trace.Unproved},
		{sent, of(api.EvAck, q), trace.Unproved},
		{add(sent, of(api.EvRecv, p)), forged, trace.Unproved},
		{add(sent, of(api.EvRecv, p)), of(api.EvAck, p), trace.Fine},
		{add(sent, of(api.EvRecv, far), of(api.EvRecv, p)), of(api.EvAck, far), trace.Fine},
	} {
		if got := trace.Wrong(ordered, x.ahead, x.x); got != x.want {
			t.Errorf("%d: %s, not %s", i, trace.Name(got), trace.Name(x.want))
		}
	}
	if got := trace.Wrong(nil, nil, of(api.EvSend, p)); got != trace.Form {
		t.Errorf("no channels: %s", trace.Name(got))
	}
}

func TestCheck(t *testing.T) {
	p := pack(0, 0, 1)
	for _, x := range []struct {
		l       []api.Mark
		at, why int
	}{
		{nil, 0, trace.Fine},
		{[]api.Mark{of(api.EvRecv, p)}, 0, trace.Unsent},
		{[]api.Mark{of(api.EvSend, p), of(api.EvRecv, p)}, 2, trace.Fine},
		{[]api.Mark{of(api.EvSend, p), of(api.EvRecv, p), of(api.EvRecv, p), {}}, 2, trace.Twice},
		{[]api.Mark{of(api.EvSend, p), {}, of(api.EvRecv, p)}, 1, trace.Form},
	} {
		if at, why := trace.Check(ordered, x.l); at != x.at || why != x.why {
			t.Errorf("%v: %d, %s", x.l, at, trace.Name(why))
		}
	}
}

func TestOpen(t *testing.T) {
	a, b, c, d := pack(1, 0, 2), pack(0, 1, 7), pack(0, 0, 3), pack(0, 1, 2)
	l := []api.Mark{
		of(api.EvSend, a), of(api.EvSend, b), of(api.EvSend, c), of(api.EvSend, a), of(api.EvSend, d), of(api.EvRecv, a),
	}
	if got := trace.Open(l); !slices.Equal(got, []api.Key{packet.Key(c), packet.Key(d), packet.Key(b), packet.Key(a)}) {
		t.Errorf("%v", got)
	}
	l = append(l, of(api.EvAck, a), of(api.EvTimeout, d), of(api.EvRecv, pack(2, 0, 1)))
	if got := trace.Open(l); !slices.Equal(got, []api.Key{packet.Key(c), packet.Key(b)}) {
		t.Errorf("%v", got)
	}
	if len(trace.Open(nil)) != 0 {
		t.Errorf("something of nothing")
	}
}

// TestAWorldKeepsTheRules, whatever comes to it.
func TestAWorldKeepsTheRules(t *testing.T) {
	for seed := range 30 {
		r := rand.New(rand.NewSource(int64(seed)))
		c := conf.Plain(2, 1)
		w, _ := world.New(c)
		kinds := map[int]int{}
		for range 300 {
			side := r.Intn(2)
			switch r.Intn(5) {
			case 0:
				w.Send(api.Packet{Chan: r.Intn(2), From: side, Timeout: uint64(r.Intn(2)) * (w.Ledger(1-side).Height() + uint64(r.Intn(6))), Data: "x"})
			case 1:
				w.Tick(side)
			default:
				l := trace.Open(w.Marks())
				if len(l) == 0 {
					continue
				}
				k := l[r.Intn(min(3, len(l)))]
				p, _ := w.Ledger(k.From).Find(k)
				m := api.Msg{Kind: 2 + r.Intn(3), Packet: p}
				to := p.From
				if m.Kind == api.MsgRecv {
					to = 1 - to
				}
				if m.Kind == api.MsgAck {
					m.Ack = packet.Ack(p)
				}
				n, _ := w.Ledger(to).Expected(1)
				w.Submit(api.Tx{Side: to, Account: 1, Nonce: n, Msgs: []api.Msg{m}})
			}
		}
		l := w.Marks()
		if at, why := trace.Check(c.Ordered, l); at != len(l) || why != trace.Fine {
			t.Errorf("seed %d: %d, %s", seed, at, trace.Name(why))
		}
		for i, m := range l {
			kinds[m.Event.Kind]++
			if at, why := trace.Check(c.Ordered, l[:i]); at != i || why != trace.Fine {
				t.Errorf("seed %d, up to %d: %s", seed, i, trace.Name(why))
			}
		}
		if kinds[api.EvRecv] == 0 || kinds[api.EvSend] == 0 {
			t.Errorf("seed %d: nothing happened", seed)
		}
	}
}
