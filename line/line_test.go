package line_test

import (
	"math"
	"math/rand"
	"slices"
	"strings"
	"testing"

	"muleteer/api"
	"muleteer/line"
	"muleteer/packet"
	"muleteer/sha"
)

// pair are both ends of the channel 1: the first one is on the ledger 0.
func pair(ordered bool) (a, b *line.Line) {
	a, _ = line.New(1, 0, ordered)
	b, _ = line.New(1, 1, ordered)
	return a, b
}

func data(s string) api.Packet { return api.Packet{Chan: 1, Data: s} }

// sent sends a packet while the other ledger is at height 0.
func sent(t *testing.T, l *line.Line, p api.Packet) api.Packet {
	t.Helper()
	q, e := l.Send(p, 0)
	if e != api.OK {
		t.Fatalf("Send(%v): %v", p, e)
	}
	return q
}

// received receives a packet at height 1.
func received(t *testing.T, l, other *line.Line, p api.Packet) string {
	t.Helper()
	ack, e := l.Recv(p, 1, other)
	if e != api.OK {
		t.Fatalf("Recv(%v): %v", p, e)
	}
	return ack
}

// closed are both ends of an ordered channel, of which the first one is closed, and a packet that it has sent.
func closed(t *testing.T) (a, b *line.Line, p api.Packet) {
	t.Helper()
	a, b = pair(true)
	p = sent(t, a, api.Packet{Chan: 1, Timeout: 5})
	if e := a.Timeout(p, 5, b); e != api.OK || !a.Closed() || b.Closed() {
		t.Fatalf("Timeout: %v", e)
	}
	return a, b, p
}

func TestNew(t *testing.T) {
	for channel := -1; channel <= api.MaxChannels; channel++ {
		for side := -1; side <= 2; side++ {
			l, e := line.New(channel, side, true)
			fine := channel >= 0 && channel < api.MaxChannels && (side == 0 || side == 1)
			if fine != (e == api.OK) || fine != (l != nil) || !fine && e != api.ErrArg {
				t.Errorf("%d, %d: %v", channel, side, e)
			}
		}
	}
	for _, n := range []int{math.MinInt, math.MaxInt} {
		if l, e := line.New(n, 0, false); l != nil || e != api.ErrArg {
			t.Errorf("channel %d: %v", n, e)
		}
		if l, e := line.New(0, n, false); l != nil || e != api.ErrArg {
			t.Errorf("side %d: %v", n, e)
		}
	}
	for _, ordered := range []bool{false, true} {
		l, _ := pair(ordered)
		send, recv, ack := l.Next()
		if l.Ordered() != ordered || l.Closed() || send != 1 || recv != 1 || ack != 1 || len(l.Waiting()) != 0 {
			t.Errorf("a new end: %d, %d, %d", send, recv, ack)
		}
	}
}

func TestSend(t *testing.T) {
	a, _ := pair(false)
	for i, want := range []uint64{1, 2, 3} {
		p := api.Packet{Chan: 1, Data: "x", Timeout: uint64(i) * 7}
		q, e := a.Send(p, 6)
		p.Seq = want
		if q != p || e != api.OK {
			t.Errorf("%v, %v", q, e)
		}
		if sum, ok := a.Commit(want); !ok || sum != packet.Sum(p) {
			t.Errorf("the commitment of %d: %x, %v", want, sum, ok)
		}
		if send, recv, ack := a.Next(); send != want+1 || recv != 1 || ack != 1 {
			t.Errorf("next: %d, %d, %d", send, recv, ack)
		}
	}
	if !slices.Equal(a.Waiting(), []uint64{1, 2, 3}) {
		t.Errorf("%v", a.Waiting())
	}
	if sum, ok := a.Commit(4); ok || sum != (sha.Sum{}) {
		t.Errorf("a commitment of what was not sent")
	}
}

func TestSendErrors(t *testing.T) {
	open, _ := pair(true)
	shut, _, _ := closed(t)
	for i, x := range []struct {
		l    *line.Line
		p    api.Packet
		high uint64
		want api.Errno
	}{
		{nil, data(""), 0, api.ErrArg},
		{open, api.Packet{Chan: 0}, 0, api.ErrArg},
		{open, api.Packet{Chan: 1, From: 1}, 0, api.ErrArg},
		{open, api.Packet{Chan: 1, From: -1}, 0, api.ErrArg},
		{open, api.Packet{Chan: 1, Seq: 1}, 0, api.ErrArg},
		{open, data(strings.Repeat("x", api.MaxData+1)), 0, api.ErrArg},
		{shut, api.Packet{Chan: 1, Seq: 1}, 0, api.ErrArg},
		{shut, api.Packet{Chan: 1, Timeout: 1}, 1, api.ErrClosed},
		{open, api.Packet{Chan: 1, Timeout: 1}, 1, api.ErrLate},
		{open, api.Packet{Chan: 1, Timeout: 1}, api.Top, api.ErrLate},
		{open, api.Packet{Chan: 1, Seq: 1, Timeout: 1}, 1, api.ErrArg},
	} {
		if q, e := x.l.Send(x.p, x.high); q != (api.Packet{}) || e != x.want {
			t.Errorf("%d: %v, %v", i, q, e)
		}
	}
	if send, _, _ := open.Next(); send != 1 || len(open.Waiting()) != 0 {
		t.Errorf("an error changed something")
	}
	if _, e := open.Send(api.Packet{Chan: 1, Timeout: api.Top}, api.Top-1); e != api.OK {
		t.Errorf("just in time: %v", e)
	}
	if _, e := open.Send(api.Packet{Chan: 1}, api.Top); e != api.OK {
		t.Errorf("without a timeout: %v", e)
	}
}

func TestRecv(t *testing.T) {
	for _, ordered := range []bool{false, true} {
		a, b := pair(ordered)
		p := sent(t, a, api.Packet{Chan: 1, Timeout: 9, Data: "x"})
		ack, e := b.Recv(p, 8, a)
		if ack != packet.Ack(p) || e != api.OK || !b.Received(1) {
			t.Errorf("%q, %v", ack, e)
		}
		if sum, ok := b.Acked(1); !ok || sum != sha.Of(ack) {
			t.Errorf("acknowledgement: %x, %v", sum, ok)
		}
		next := uint64(1)
		if ordered {
			next = 2
		}
		if send, recv, ack := b.Next(); send != 1 || recv != next || ack != 1 {
			t.Errorf("next: %d, %d, %d", send, recv, ack)
		}
		if b.Received(2) || a.Received(1) || !slices.Equal(a.Waiting(), []uint64{1}) {
			t.Errorf("more was done than is to be done")
		}
	}
}

func TestRecvErrors(t *testing.T) {
	a, b := pair(true)
	first := sent(t, a, api.Packet{Chan: 1, Timeout: 9})
	received(t, b, a, first)
	second, third := sent(t, a, api.Packet{Chan: 1, Timeout: 9}), sent(t, a, data("z"))
	other := second
	other.Data = "other"
	unsent := api.Packet{Chan: 1, Seq: 7}
	// An end that is closed, for which a packet comes, of which it has a receipt.
	shut, far, _ := closed(t)
	back := sent(t, far, api.Packet{Chan: 1, From: 1})
	had, partner, _ := closed(t)
	_ = partner
	for i, x := range []struct {
		l, other *line.Line
		p        api.Packet
		high     uint64
		want     api.Errno
	}{
		{nil, a, second, 1, api.ErrArg},
		{b, nil, second, 1, api.ErrArg},
		{a, b, second, 1, api.ErrArg},
		{b, a, api.Packet{Chan: 0, Seq: 2}, 1, api.ErrArg},
		{b, a, api.Packet{Chan: 1, From: 1, Seq: 2}, 1, api.ErrArg},
		{b, a, api.Packet{Chan: 1, Seq: 1, Data: strings.Repeat("x", 65)}, 1, api.ErrArg},
		{shut, far, back, 1, api.ErrClosed},
		{had, far, api.Packet{Chan: 1, From: 1, Seq: 9, Timeout: 1}, 5, api.ErrClosed},
		{b, a, first, 99, api.ErrRedundant},
		{b, a, api.Packet{Chan: 1, Seq: 1, Data: "another one"}, 1, api.ErrRedundant},
		{b, a, second, 9, api.ErrLate},
		{b, a, api.Packet{Chan: 1, Seq: 7, Timeout: 1}, 9, api.ErrLate},
		{b, a, unsent, 1, api.ErrProof},
		{b, a, other, 1, api.ErrProof},
		{b, a, api.Packet{Chan: 1, Seq: 3, Data: "other"}, 1, api.ErrProof},
		{b, a, third, 1, api.ErrOrder},
	} {
		if ack, e := x.l.Recv(x.p, x.high, x.other); ack != "" || e != x.want {
			t.Errorf("%d: %q, %v", i, ack, e)
		}
	}
	if _, recv, _ := b.Next(); recv != 2 || b.Received(2) || b.Received(3) {
		t.Errorf("an error changed something")
	}
	received(t, b, a, second)
	received(t, b, a, third)
}

func TestUnorderedEndsReceiveInAnyOrder(t *testing.T) {
	a, b := pair(false)
	var l []api.Packet
	for range 4 {
		l = append(l, sent(t, a, data("x")))
	}
	for _, i := range []int{2, 0, 3, 1} {
		ack := received(t, b, a, l[i])
		if e := a.Ack(l[i], ack, b); e != api.OK {
			t.Errorf("Ack of %d: %v", i, e)
		}
	}
	if _, recv, ack := b.Next(); recv != 1 || ack != 1 || len(a.Waiting()) != 0 {
		t.Errorf("%d, %d, %v", recv, ack, a.Waiting())
	}
}

func TestAck(t *testing.T) {
	for _, ordered := range []bool{false, true} {
		a, b := pair(ordered)
		p, q := sent(t, a, data("p")), sent(t, a, data("q"))
		ack, another := received(t, b, a, p), received(t, b, a, q)
		// An early one, of an ordered channel.
		if e := a.Ack(q, another, b); ordered && e != api.ErrOrder || !ordered && e != api.OK {
			t.Errorf("the second one: %v", e)
		}
		if e := a.Ack(p, ack, b); e != api.OK {
			t.Errorf("the first one: %v", e)
		}
		if _, ok := a.Commit(1); ok {
			t.Errorf("the commitment is still there")
		}
		_, _, next := a.Next()
		if ordered && (next != 2 || !slices.Equal(a.Waiting(), []uint64{2})) || !ordered && (next != 1 || len(a.Waiting()) != 0) {
			t.Errorf("%d, %v", next, a.Waiting())
		}
		if e := a.Ack(p, ack, b); e != api.ErrRedundant {
			t.Errorf("once more: %v", e)
		}
		if ordered && a.Ack(q, another, b) != api.OK {
			t.Errorf("the second one in its turn")
		}
	}
}

func TestAckErrors(t *testing.T) {
	a, b := pair(true)
	p, q, r := sent(t, a, data("p")), sent(t, a, data("q")), sent(t, a, data("r"))
	ack := received(t, b, a, p)
	received(t, b, a, q)
	shut, far, gone := closed(t)
	other := p
	other.Timeout = 9
	for i, x := range []struct {
		l, other *line.Line
		p        api.Packet
		ack      string
		want     api.Errno
	}{
		{nil, b, p, ack, api.ErrArg},
		{a, nil, p, ack, api.ErrArg},
		{b, a, p, ack, api.ErrArg},
		{a, b, api.Packet{Chan: 2, Seq: 1}, ack, api.ErrArg},
		{a, b, api.Packet{Chan: 1, From: 1, Seq: 1}, ack, api.ErrArg},
		{shut, nil, gone, ack, api.ErrArg},
		{shut, far, gone, ack, api.ErrClosed},
		{a, b, api.Packet{Chan: 1, Seq: 4}, ack, api.ErrRedundant},
		{a, b, api.Packet{Chan: 1}, ack, api.ErrRedundant},
		{a, b, other, ack, api.ErrProof},
		{a, b, p, ack + "x", api.ErrProof},
		{a, b, p, "", api.ErrProof},
		{a, b, q, ack, api.ErrProof},
		{a, b, r, packet.Ack(r), api.ErrProof},
		{a, b, q, packet.Ack(q), api.ErrOrder},
	} {
		if e := x.l.Ack(x.p, x.ack, x.other); e != x.want {
			t.Errorf("%d: %v", i, e)
		}
	}
	if _, _, next := a.Next(); next != 1 || !slices.Equal(a.Waiting(), []uint64{1, 2, 3}) {
		t.Errorf("an error changed something")
	}
}

func TestTimeout(t *testing.T) {
	for _, ordered := range []bool{false, true} {
		a, b := pair(ordered)
		p := sent(t, a, api.Packet{Chan: 1, Timeout: 5})
		sent(t, a, data("q"))
		if e := a.Timeout(p, 4, b); e != api.ErrEarly {
			t.Errorf("early: %v", e)
		}
		if e := a.Timeout(p, 5, b); e != api.OK || a.Closed() != ordered || b.Closed() || !slices.Equal(a.Waiting(), []uint64{2}) {
			t.Errorf("%v, %v, %v", e, a.Closed(), a.Waiting())
		}
		want := api.ErrRedundant
		if ordered {
			want = api.ErrClosed
		}
		if e := a.Timeout(p, 5, b); e != want {
			t.Errorf("once more: %v", e)
		}
		if _, e := b.Recv(p, 4, a); e != api.ErrProof {
			t.Errorf("received all the same: %v", e)
		}
	}
}

func TestTimeoutErrors(t *testing.T) {
	a, b := pair(true)
	p, q, r := sent(t, a, api.Packet{Chan: 1, Timeout: 5}), sent(t, a, data("q")), sent(t, a, api.Packet{Chan: 1, Timeout: 5, Data: "r"})
	received(t, b, a, p)
	received(t, b, a, q)
	shut, far, gone := closed(t)
	other := p
	other.Data = "other"
	for i, x := range []struct {
		l, other *line.Line
		p        api.Packet
		high     uint64
		want     api.Errno
	}{
		{nil, b, p, 5, api.ErrArg},
		{a, nil, p, 5, api.ErrArg},
		{b, a, p, 5, api.ErrArg},
		{a, b, api.Packet{Chan: 3, Seq: 1, Timeout: 5}, 5, api.ErrArg},
		{shut, far, gone, 4, api.ErrClosed},
		{a, b, api.Packet{Chan: 1, Seq: 4}, 5, api.ErrRedundant},
		{a, b, other, 4, api.ErrProof},
		{a, b, p, 4, api.ErrEarly},
		{a, b, q, api.Top, api.ErrEarly},
		{a, b, r, 0, api.ErrEarly},
		{a, b, p, 5, api.ErrState},
	} {
		if e := x.l.Timeout(x.p, x.high, x.other); e != x.want {
			t.Errorf("%d: %v", i, e)
		}
	}
	if a.Closed() || !slices.Equal(a.Waiting(), []uint64{1, 2, 3}) {
		t.Errorf("an error changed something")
	}
}

func TestNoEnd(t *testing.T) {
	var l *line.Line
	send, recv, ack := l.Next()
	sum, ok := l.Commit(1)
	acked, had := l.Acked(1)
	if l.Ordered() || l.Closed() || send != 0 || recv != 0 || ack != 0 || ok || had || sum != (sha.Sum{}) || acked != (sha.Sum{}) || l.Received(1) || len(l.Waiting()) != 0 {
		t.Errorf("an end that nobody made tells something")
	}
}

// TestTwoEnds does whatever comes to two ends, at heights that rise.
func TestTwoEnds(t *testing.T) {
	for seed := range 40 {
		r := rand.New(rand.NewSource(int64(seed)))
		ordered := seed%2 == 0
		a, b := pair(ordered)
		ends := []*line.Line{a, b}
		var height [2]uint64
		var all []api.Packet
		got, told := map[api.Key]int{}, map[api.Key]int{}
		var order [2][]uint64
		for range 400 {
			if r.Intn(4) == 0 {
				height[r.Intn(2)]++
			}
			if r.Intn(4) == 0 || len(all) == 0 {
				s := r.Intn(2)
				p := api.Packet{Chan: 1, From: s, Timeout: uint64(r.Intn(3)) * (height[1-s] + uint64(r.Intn(5)))}
				if q, e := ends[s].Send(p, height[1-s]); e == api.OK {
					all = append(all, q)
				}
				continue
			}
			p := all[r.Intn(len(all))]
			k := packet.Key(p)
			here, there := ends[p.From], ends[1-p.From]
			switch r.Intn(3) {
			case 0:
				if _, e := there.Recv(p, height[1-p.From]+1, here); e == api.OK {
					height[1-p.From]++
					got[k]++
					order[p.From] = append(order[p.From], p.Seq)
				}
			case 1:
				if here.Ack(p, packet.Ack(p), there) == api.OK {
					if told[k]++; got[k] != 1 {
						t.Fatalf("%v is acknowledged, and not received", k)
					}
				}
			case 2:
				if here.Timeout(p, height[1-p.From], there) == api.OK {
					if told[k]++; got[k] != 0 {
						t.Fatalf("%v is told not to have been received, and was", k)
					}
				}
			}
			_, there1 := here.Commit(p.Seq)
			if got[k] > 1 || told[k] > 1 || there1 != (told[k] == 0) {
				t.Fatalf("%v: received %d times, told %d times", k, got[k], told[k])
			}
		}
		for _, l := range order {
			for i, n := range l {
				if ordered && n != uint64(i)+1 {
					t.Fatalf("received out of turn: %v", l)
				}
			}
		}
	}
}
