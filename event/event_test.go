package event_test

import (
	"math"
	"slices"
	"strings"
	"testing"

	"muleteer/api"
	"muleteer/digit"
	"muleteer/event"
	"muleteer/packet"
)

var long = strings.Repeat("x", api.MaxData)

var one = api.Packet{Chan: 1, From: 1, Seq: 2, Timeout: 3, Data: "x"}

func right() []api.Event {
	return []api.Event{
		{Kind: api.EvSend, Height: 5, Packet: one},
		{Kind: api.EvSend, Height: api.Top},
		{Kind: api.EvRecv, Packet: one, Ack: long},
		{Kind: api.EvRecv, Packet: one},
		{Kind: api.EvAck, Height: 5, Packet: one, Ack: "y"},
		{Kind: api.EvAck, Height: 5, Packet: one},
		{Kind: api.EvTimeout, Height: 5, Packet: one},
		{Kind: api.EvClose, Height: 5, Packet: one},
		{Kind: api.EvClose, Packet: api.Packet{Data: long}},
	}
}

func wrong() []api.Event {
	return []api.Event{
		{}, {Kind: -1}, {Kind: 6}, {Kind: math.MinInt}, {Kind: math.MaxInt},
		{Kind: api.EvSend, Ack: "y"}, {Kind: api.EvTimeout, Ack: "y"}, {Kind: api.EvClose, Ack: "y"},
		{Kind: api.EvRecv, Ack: long + "x"}, {Kind: api.EvAck, Ack: long + "x"},
		{Kind: api.EvSend, Packet: api.Packet{Chan: 4}}, {Kind: api.EvRecv, Packet: api.Packet{From: 2}},
		{Kind: api.EvAck, Packet: api.Packet{Chan: -1}}, {Kind: api.EvClose, Packet: api.Packet{Data: long + "x"}},
	}
}

func TestRightPutAndGet(t *testing.T) {
	seen := map[string]int{}
	for i, x := range right() {
		s, e := event.Put(x)
		if !event.Right(x) || e != api.OK {
			t.Errorf("%d: %v, %v", i, event.Right(x), e)
		}
		if got, e := event.Get(s); got != x || e != api.OK {
			t.Errorf("%d: %v, %v", i, got, e)
		}
		if j, ok := seen[s]; ok {
			t.Errorf("%d and %d have the same bytes", i, j)
		}
		seen[s] = i
	}
	for i, x := range wrong() {
		if s, e := event.Put(x); event.Right(x) || s != "" || e != api.ErrArg {
			t.Errorf("wrong %d: %v, %q, %v", i, event.Right(x), s, e)
		}
	}
}

func TestBytes(t *testing.T) {
	body, _ := packet.Put(one)
	for kind, tail := range map[int]string{api.EvSend: "", api.EvRecv: "\x01\x02yz", api.EvAck: "\x01\x02yz", api.EvTimeout: "", api.EvClose: ""} {
		x := api.Event{Kind: kind, Height: 256, Packet: one}
		if tail != "" {
			x.Ack = "yz"
		}
		if s, _ := event.Put(x); s != digit.Num(uint64(kind))+"\x02\x01\x00"+body+tail {
			t.Errorf("kind %d: %q", kind, s)
		}
	}
}

func TestGetErrors(t *testing.T) {
	none := "\x00\x00\x00\x00\x00\x00"
	for s, want := range map[string]api.Errno{
		"":                                    api.ErrShort,
		"\x01\x06" + none:                     api.ErrRange,
		"\x00" + none:                         api.ErrForm,
		"\x00" + none + "\x00":                api.ErrLong,
		"\x01\x01" + none:                     api.OK,
		"\x01\x01" + none + "\x00":            api.ErrLong,
		"\x01\x02" + none:                     api.ErrShort,
		"\x01\x02" + none + "\x00":            api.OK,
		"\x01\x03" + none:                     api.ErrShort,
		"\x01\x03" + none + "\x01\x40" + long: api.OK,
		"\x01\x03" + none + "\x01\x41" + long + "x": api.ErrLong,
		"\x01\x04" + none + "\x00":                  api.ErrLong,
		"\x01\x05" + none:                           api.OK,
		"\x01\x05\x00\x01\x04\x00\x00\x00\x00":      api.ErrRange,
		"\x01\x05\x01\x00\x00\x00\x00\x00\x00":      api.ErrForm,
	} {
		x, e := event.Get(s)
		if e != want || e != api.OK && x != (api.Event{}) {
			t.Errorf("%q: %v, %v", s, x, e)
		}
	}
}

func TestPackAndUnpack(t *testing.T) {
	l := right()
	s, e := event.Pack(l)
	if e != api.OK {
		t.Fatalf("Pack: %v", e)
	}
	var parts []string
	for _, x := range l {
		p, _ := event.Put(x)
		parts = append(parts, p)
	}
	if s != digit.List(parts...) {
		t.Errorf("Pack: %q", s)
	}
	if got, wrong, e := event.Unpack(s); !slices.Equal(got, l) || wrong != 0 || e != api.OK {
		t.Errorf("Unpack: %v, %d, %v", got, wrong, e)
	}
	if s, e := event.Pack([]api.Event{l[0], {}}); s != "" || e != api.ErrArg {
		t.Errorf("Pack of a wrong one: %q, %v", s, e)
	}
	many := make([]api.Event, api.MaxList+1)
	if s, e := event.Pack(many); s != "" || e != api.ErrFull {
		t.Errorf("Pack of too many: %q, %v", s, e)
	}
	if s, e := event.Pack(many[1:]); s != "" || e != api.ErrArg {
		t.Errorf("Pack of as many wrong ones as may be: %q, %v", s, e)
	}
	if s, e := event.Pack(nil); s != "\x00" || e != api.OK {
		t.Errorf("Pack of nothing: %q, %v", s, e)
	}
	for _, x := range []struct {
		s     string
		wrong int
		e     api.Errno
	}{
		{"", 0, api.ErrShort},
		{s + "\x00", 0, api.ErrLong},
		{digit.Num(api.MaxList + 1), 0, api.ErrLong},
		{digit.List(parts[0], "\x00\x00\x00\x00\x00\x00\x00", ""), 2, api.ErrForm},
		{digit.List(""), 1, api.ErrShort},
	} {
		if l, wrong, e := event.Unpack(x.s); len(l) != 0 || wrong != x.wrong || e != x.e {
			t.Errorf("%q: %v, %d, %v", x.s, l, wrong, e)
		}
	}
}

func TestWord(t *testing.T) {
	for kind, want := range map[int]string{-1: "", 0: "", 1: "sent", 2: "received", 3: "acked", 4: "expired", 5: "closed", 6: "", math.MinInt: ""} {
		if got := event.Word(kind); got != want {
			t.Errorf("%d: %s", kind, got)
		}
	}
}

func TestFind(t *testing.T) {
	l := []api.Event{
		{Kind: api.EvSend, Packet: api.Packet{Seq: 1}},
		{Kind: api.EvSend, Packet: api.Packet{Seq: 2, Data: "first"}},
		{Kind: api.EvRecv, Packet: api.Packet{Seq: 1}},
		{Kind: api.EvSend, Packet: api.Packet{Seq: 2, Data: "second"}},
		{Kind: api.EvSend, Packet: api.Packet{From: 1, Seq: 2}},
		{Kind: api.EvSend, Packet: api.Packet{Chan: 1, Seq: 2}},
		{Kind: 77},
	}
	for _, x := range []struct {
		kind int
		k    api.Key
		want int
	}{
		{api.EvSend, api.Key{Seq: 1}, 0}, {api.EvSend, api.Key{Seq: 2}, 1}, {api.EvRecv, api.Key{Seq: 1}, 2},
		{api.EvSend, api.Key{From: 1, Seq: 2}, 4}, {api.EvSend, api.Key{Chan: 1, Seq: 2}, 5}, {77, api.Key{}, 6},
		{api.EvRecv, api.Key{Seq: 2}, api.None}, {api.EvSend, api.Key{Seq: 3}, api.None}, {0, api.Key{Seq: 1}, api.None},
	} {
		if got := event.Find(l, x.kind, x.k); got != x.want {
			t.Errorf("%d, %v: %d", x.kind, x.k, got)
		}
	}
	if got := event.Find(nil, api.EvSend, api.Key{}); got != api.None {
		t.Errorf("in nothing: %d", got)
	}
}

func TestOnly(t *testing.T) {
	a := api.Event{Kind: api.EvSend, Height: 1, Packet: api.Packet{Chan: 1, Seq: 1}}
	b := api.Event{Kind: api.EvSend, Height: 3, Packet: api.Packet{Chan: 1, Seq: 2}}
	l := []api.Event{
		a,
		{Kind: api.EvSend, Packet: api.Packet{Chan: 1, From: 1}},
		{Kind: api.EvRecv, Packet: api.Packet{Chan: 1}},
		{Kind: api.EvSend, Packet: api.Packet{}},
		b, a,
	}
	got := event.Only(l, api.EvSend, 1, 0)
	if !slices.Equal(got, []api.Event{a, b, a}) {
		t.Errorf("%v", got)
	}
	got[0].Height = 99
	if l[0] != a {
		t.Errorf("the answer shares memory with the log")
	}
	if len(event.Only(l, api.EvClose, 1, 0)) != 0 || len(event.Only(l, api.EvSend, -1, 0)) != 0 || len(event.Only(nil, 1, 0, 0)) != 0 {
		t.Errorf("something of nothing")
	}
}

func TestRising(t *testing.T) {
	for _, x := range []struct {
		heights []uint64
		want    bool
	}{
		{nil, true}, {[]uint64{7}, true}, {[]uint64{1, 1, 3}, true}, {[]uint64{2, 1}, false},
		{[]uint64{1, 2, 3, 2}, false}, {[]uint64{0, api.Top, api.Top}, true}, {[]uint64{api.Top, 0}, false}, {[]uint64{3, 1, 2}, false},
	} {
		var l []api.Event
		for _, h := range x.heights {
			l = append(l, api.Event{Height: h})
		}
		if event.Rising(l) != x.want {
			t.Errorf("%v", x.heights)
		}
	}
}
