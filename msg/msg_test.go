package msg_test

import (
	"math"
	"strings"
	"testing"

	"muleteer/api"
	"muleteer/digit"
	"muleteer/msg"
	"muleteer/packet"
)

var long = strings.Repeat("x", api.MaxData)

func right() []api.Msg {
	p := api.Packet{Chan: 1, From: 1, Seq: 2, Timeout: 3, Data: "x"}
	return []api.Msg{
		{Kind: api.MsgSend, Packet: api.Packet{Chan: 3, From: 1, Timeout: 9, Data: long}},
		{Kind: api.MsgSend},
		{Kind: api.MsgRecv, Packet: p},
		{Kind: api.MsgRecv},
		{Kind: api.MsgAck, Packet: p, Ack: long},
		{Kind: api.MsgAck, Packet: p, Ack: "y"},
		{Kind: api.MsgAck, Packet: p},
		{Kind: api.MsgTimeout, Packet: p},
		{Kind: api.MsgTimeout, Packet: api.Packet{Seq: api.Top}},
	}
}

func wrong() []api.Msg {
	return []api.Msg{
		{}, {Kind: -1}, {Kind: 5}, {Kind: math.MinInt}, {Kind: math.MaxInt},
		{Kind: api.MsgRecv, Packet: api.Packet{Chan: -1}},
		{Kind: api.MsgAck, Packet: api.Packet{From: 2}},
		{Kind: api.MsgTimeout, Packet: api.Packet{Data: long + "x"}},
		{Kind: api.MsgAck, Ack: long + "x"},
		{Kind: api.MsgSend, Ack: "x"}, {Kind: api.MsgRecv, Ack: "x"}, {Kind: api.MsgTimeout, Ack: "x"},
		{Kind: api.MsgSend, Packet: api.Packet{Seq: 1}},
		{Kind: api.MsgSend, Packet: api.Packet{Seq: api.Top}},
	}
}

func TestRightPutAndGet(t *testing.T) {
	seen := map[string]int{}
	for i, m := range right() {
		s, e := msg.Put(m)
		if !msg.Right(m) || e != api.OK {
			t.Errorf("%d: %v, %v", i, msg.Right(m), e)
		}
		if got, e := msg.Get(s); got != m || e != api.OK {
			t.Errorf("%d: %v, %v", i, got, e)
		}
		if j, ok := seen[s]; ok {
			t.Errorf("%d and %d have the same bytes", i, j)
		}
		seen[s] = i
	}
	for i, m := range wrong() {
		if s, e := msg.Put(m); msg.Right(m) || s != "" || e != api.ErrArg {
			t.Errorf("wrong %d: %v, %q, %v", i, msg.Right(m), s, e)
		}
	}
}

func TestBytes(t *testing.T) {
	p := api.Packet{Chan: 1, Seq: 2, Data: "x"}
	body, _ := packet.Put(p)
	for want, m := range map[string]api.Msg{
		"\x01\x02" + body:                {Kind: api.MsgRecv, Packet: p},
		"\x01\x03" + body + "\x01\x02yz": {Kind: api.MsgAck, Packet: p, Ack: "yz"},
		"\x01\x03" + body + "\x00":       {Kind: api.MsgAck, Packet: p},
		"\x01\x04" + body:                {Kind: api.MsgTimeout, Packet: p},
	} {
		if s, _ := msg.Put(m); s != want {
			t.Errorf("%v: %q", m, s)
		}
	}
}

func TestGetErrors(t *testing.T) {
	none := "\x00\x00\x00\x00\x00"
	seq := "\x00\x00\x01\x01\x00\x00"
	for s, want := range map[string]api.Errno{
		"":                         api.ErrShort,
		"\x01\x05" + none:          api.ErrRange,
		"\x00" + none:              api.ErrForm,
		"\x01\x01" + seq:           api.ErrForm,
		"\x01\x01" + none:          api.OK,
		"\x01\x01" + none + "\x00": api.ErrLong,
		"\x00" + none + "\x00":     api.ErrLong,
		"\x01\x02" + none + "\x00": api.ErrLong,
		"\x01\x03" + none:          api.ErrShort,
		"\x01\x03" + none + "\x01\x41" + long + "x": api.ErrLong,
		"\x01\x02\x01\x04\x00\x00\x00\x00":          api.ErrRange,
		"\x01\x00" + none:                           api.ErrForm,
	} {
		m, e := msg.Get(s)
		if e != want || e != api.OK && m != (api.Msg{}) {
			t.Errorf("%q: %v, %v", s, m, e)
		}
	}
}

func TestTake(t *testing.T) {
	a := api.Msg{Kind: api.MsgAck, Packet: api.Packet{Seq: 1}, Ack: "y"}
	s, _ := msg.Put(a)
	r := digit.Read(s + "\x00")
	if m := msg.Take(r); m != a || r.Left() != 1 {
		t.Errorf("%v, %d left", m, r.Left())
	}
	if m := msg.Take(r); m != (api.Msg{}) || r.End() != api.ErrShort {
		t.Errorf("behind the end: %v, %v", m, r.End())
	}
	if m := msg.Take(nil); m != (api.Msg{}) {
		t.Errorf("no reader: %v", m)
	}
	r = digit.Read("\x01\x03\x00\x00\x01\x01\x00\x00\x01")
	if m := msg.Take(r); m != (api.Msg{}) || r.End() != api.ErrShort {
		t.Errorf("a part of a message: %v, %v", m, r.End())
	}
	// What isn't right is read all the same.
	if m := msg.Take(digit.Read("\x01\x01\x00\x00\x01\x01\x00\x00")); m != (api.Msg{Kind: api.MsgSend, Packet: api.Packet{Seq: 1}}) {
		t.Errorf("a MsgSend with a number: %v", m)
	}
}

func TestSide(t *testing.T) {
	for kind, want := range map[int]int{api.MsgSend: 0, api.MsgRecv: 1, api.MsgAck: 0, api.MsgTimeout: 0} {
		for from := range 2 {
			if got := msg.Side(api.Msg{Kind: kind, Packet: api.Packet{From: from}}); got != want^from {
				t.Errorf("kind %d, from %d: %d", kind, from, got)
			}
		}
		for _, from := range []int{-1, 2, math.MinInt, math.MaxInt} {
			if got := msg.Side(api.Msg{Kind: kind, Packet: api.Packet{From: from}}); got != api.None {
				t.Errorf("kind %d, from %d: %d", kind, from, got)
			}
		}
	}
	for _, kind := range []int{0, -1, 5, math.MaxInt} {
		if got := msg.Side(api.Msg{Kind: kind}); got != api.None {
			t.Errorf("kind %d: %d", kind, got)
		}
	}
	// It hangs on nothing else.
	if got := msg.Side(api.Msg{Kind: api.MsgRecv, Packet: api.Packet{Chan: 99, Seq: 1}, Ack: "x"}); got != 1 {
		t.Errorf("a message that isn't right: %d", got)
	}
}

func TestWord(t *testing.T) {
	for kind, want := range map[int]string{-1: "", 0: "", 1: "send", 2: "recv", 3: "ack", 4: "timeout", 5: "", math.MaxInt: ""} {
		if got := msg.Word(kind); got != want {
			t.Errorf("%d: %s", kind, got)
		}
	}
}

func TestFind(t *testing.T) {
	l := right()
	for i, m := range l {
		if got := msg.Find(append(right(), l...), m); got != i {
			t.Errorf("%d: %d", i, got)
		}
		m.Packet.Data += "z"
		if got := msg.Find(l, m); got != api.None {
			t.Errorf("%d, with other data: %d", i, got)
		}
	}
	if msg.Find(nil, l[0]) != api.None || msg.Find([]api.Msg{}, api.Msg{}) != api.None {
		t.Errorf("found in nothing")
	}
	if got := msg.Find([]api.Msg{{Kind: 3, Ack: "a"}, {Kind: 3, Ack: "b"}}, api.Msg{Kind: 3, Ack: "b"}); got != 1 {
		t.Errorf("another Ack: %d", got)
	}
}
