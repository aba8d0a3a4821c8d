package txn_test

import (
	"math"
	"slices"
	"strings"
	"testing"

	"muleteer/api"
	"muleteer/digit"
	"muleteer/msg"
	"muleteer/sha"
	"muleteer/txn"
)

// recv is a message to the ledger 1, ack one to the ledger 0.
var (
	recv = api.Msg{Kind: api.MsgRecv, Packet: api.Packet{Chan: 1, Seq: 2, Data: "x"}}
	ack  = api.Msg{Kind: api.MsgAck, Packet: api.Packet{Chan: 1, Seq: 2, Data: "x"}, Ack: "y"}
	full = slices.Repeat([]api.Msg{recv}, api.MaxBatch)
)

func right() []api.Tx {
	return []api.Tx{
		{},
		{Side: 1, Account: 2, Nonce: 3},
		{Side: 1, Account: 3, Nonce: 2},
		{Account: api.MaxAccounts, Nonce: api.Top, Msgs: []api.Msg{ack}},
		{Side: 1, Msgs: []api.Msg{recv}},
		{Side: 1, Msgs: []api.Msg{recv, {Kind: api.MsgAck, Packet: api.Packet{From: 1}}}},
		{Side: 1, Msgs: full},
		{Msgs: []api.Msg{{Kind: api.MsgSend}, ack, {Kind: api.MsgTimeout}}},
	}
}

func wrong() []api.Tx {
	return []api.Tx{
		{Side: -1}, {Side: 2}, {Side: math.MinInt}, {Side: math.MaxInt},
		{Account: -1}, {Account: api.MaxAccounts + 1}, {Account: math.MaxInt},
		{Side: 1, Msgs: append([]api.Msg{recv}, full...)},
		{Msgs: []api.Msg{{}}},
		{Side: 1, Msgs: []api.Msg{recv, {Kind: api.MsgRecv, Ack: "x"}}},
		{Msgs: []api.Msg{recv}},
		{Side: 1, Msgs: []api.Msg{recv, ack}},
	}
}

func TestRightPutAndGet(t *testing.T) {
	seen := map[string]int{}
	for i, x := range right() {
		s, e := txn.Put(x)
		if !txn.Right(x) || e != api.OK {
			t.Errorf("%d: %v, %v", i, txn.Right(x), e)
		}
		if got, e := txn.Get(s); !txn.Same(got, x) || !slices.Equal(got.Msgs, x.Msgs) || e != api.OK {
			t.Errorf("%d: %v, %v", i, got, e)
		}
		if txn.Sum(x) != sha.Of(s) {
			t.Errorf("%d: sum %x", i, txn.Sum(x))
		}
		if j, ok := seen[s]; ok {
			t.Errorf("%d and %d have the same bytes", i, j)
		}
		seen[s] = i
	}
	for i, x := range wrong() {
		if s, e := txn.Put(x); txn.Right(x) || s != "" || e != api.ErrArg || txn.Sum(x) != (sha.Sum{}) {
			t.Errorf("wrong %d: %v, %q, %v", i, txn.Right(x), s, e)
		}
	}
}

func TestBytes(t *testing.T) {
	if s, _ := txn.Put(api.Tx{Side: 1, Account: 2, Nonce: 3}); s != "\x01\x01\x01\x02\x01\x03\x00" {
		t.Errorf("the example: %q", s)
	}
	other := api.Msg{Kind: api.MsgTimeout, Packet: api.Packet{From: 1}}
	a, _ := msg.Put(recv)
	b, _ := msg.Put(other)
	if s, _ := txn.Put(api.Tx{Side: 1, Nonce: 256, Msgs: []api.Msg{recv, other}}); s != "\x01\x01\x00\x02\x01\x00\x01\x02"+a+b {
		t.Errorf("with messages: %q", s)
	}
}

func TestGetErrors(t *testing.T) {
	whole, _ := txn.Put(api.Tx{Account: 1, Nonce: 2, Msgs: []api.Msg{ack, ack}})
	for i := range len(whole) {
		if x, e := txn.Get(whole[:i]); !txn.Same(x, api.Tx{}) || e != api.ErrShort {
			t.Errorf("%d bytes: %v, %v", i, x, e)
		}
	}
	one, _ := msg.Put(recv)
	for s, want := range map[string]api.Errno{
		whole + "\x00":                                               api.ErrLong,
		"\x01\x02\x00\x00\x00":                                       api.ErrRange,
		"\x00\x01\x05\x00\x00":                                       api.ErrRange,
		"\x00\x00\x00\x01\x09":                                       api.ErrRange,
		"\x00\x00\x00\x01\x01" + one:                                 api.ErrForm,
		"\x01\x01\x00\x00\x01\x01" + one:                             api.OK,
		"\x00\x00\x00\x01\x01" + one + "\x00":                        api.ErrLong,
		"\x00\x00\x00\x01\x01\x00\x00\x00\x00\x00\x00":               api.ErrForm,
		"\x00\x00\x00\x01\x02\x01\x05" + one + "\x00":                api.ErrRange,
		"\x00\x00\x00\x01\x01\x01\x01\x00\x00\x01\x01\x00\x00":       api.ErrForm,
		"\x00\x00\x00\x01\x01\x01\x01\x00\x00\x01\x01\x00\x00\x00":   api.ErrLong,
		"\x00\x00\x00\x01\x01\x01\x01\x00\x00\x01\x01\x00\x01\x02a":  api.ErrShort,
		"\x00\x00\x00\x01\x00":                                       api.ErrForm,
		"\x01\x01\x00\x00" + "\x01\x08" + strings.Repeat(one, 8):     api.OK,
		"\x01\x01\x00\x00" + "\x01\x09" + strings.Repeat(one, 9):     api.ErrRange,
		"\x01\x01\x00\x00" + "\x01\x07" + strings.Repeat(one, 8):     api.ErrLong,
		"\x01\x01\x00\x00" + "\x01\x08" + strings.Repeat(one, 7):     api.ErrShort,
		"\x01\x01\x00\x00" + "\x08\xff\xff\xff\xff\xff\xff\xff\xff":  api.ErrRange,
		"\x01\x01\x00\x08\xff\xff\xff\xff\xff\xff\xff\xff" + "\x00":  api.OK,
		"\x01\x01\x00\x09\xff\xff\xff\xff\xff\xff\xff\xff\xff" + "0": api.ErrForm,
	} {
		x, e := txn.Get(s)
		if e != want || e != api.OK && !txn.Same(x, api.Tx{}) {
			t.Errorf("%q: %v, %v", s, x, e)
		}
	}
}

func TestSame(t *testing.T) {
	for i, a := range right() {
		for j, b := range right() {
			if txn.Same(a, b) != (i == j) {
				t.Errorf("%d and %d", i, j)
			}
		}
	}
	if !txn.Same(api.Tx{Msgs: []api.Msg{}}, api.Tx{}) {
		t.Errorf("no messages, and none")
	}
	a := api.Tx{Msgs: []api.Msg{recv, ack}}
	for _, b := range []api.Tx{{Msgs: []api.Msg{ack, recv}}, {Msgs: []api.Msg{recv}}, {Msgs: []api.Msg{recv, ack, ack}}, {Msgs: []api.Msg{recv, {Kind: api.MsgAck}}}} {
		if txn.Same(a, b) || txn.Same(b, a) {
			t.Errorf("the same: %v", b)
		}
	}
	if bad := (api.Tx{Side: 7, Account: -3}); !txn.Same(bad, bad) {
		t.Errorf("one that isn't right is not the same as itself")
	}
}

func TestPackAndUnpack(t *testing.T) {
	l := right()
	s, e := txn.Pack(l)
	if e != api.OK {
		t.Fatalf("Pack: %v", e)
	}
	var parts []string
	for _, x := range l {
		p, _ := txn.Put(x)
		parts = append(parts, p)
	}
	if s != digit.List(parts...) {
		t.Errorf("Pack: %q", s)
	}
	if got, wrong, e := txn.Unpack(s); !slices.EqualFunc(got, l, txn.Same) || wrong != 0 || e != api.OK {
		t.Errorf("Unpack: %v, %d, %v", got, wrong, e)
	}
	if s, e := txn.Pack(nil); s != "\x00" || e != api.OK {
		t.Errorf("Pack of nothing: %q, %v", s, e)
	}
	if got, wrong, e := txn.Unpack("\x00"); len(got) != 0 || wrong != 0 || e != api.OK {
		t.Errorf("Unpack of nothing: %v, %d, %v", got, wrong, e)
	}
	if s, e := txn.Pack([]api.Tx{{}, {Side: 2}}); s != "" || e != api.ErrArg {
		t.Errorf("Pack of a wrong one: %q, %v", s, e)
	}
	many := make([]api.Tx, api.MaxList+1)
	many[0].Side = 2
	if s, e := txn.Pack(many); s != "" || e != api.ErrFull {
		t.Errorf("Pack of too many: %q, %v", s, e)
	}
	s, e = txn.Pack(many[1:])
	if got, wrong, f := txn.Unpack(s); e != api.OK || len(got) != api.MaxList || wrong != 0 || f != api.OK {
		t.Errorf("as many as may be: %v, %d, %d, %v", e, len(got), wrong, f)
	}
}

func TestUnpackErrors(t *testing.T) {
	one, _ := txn.Put(api.Tx{})
	for _, x := range []struct {
		s     string
		wrong int
		e     api.Errno
	}{
		{"", 0, api.ErrShort},
		{"\x09", 0, api.ErrForm},
		{digit.List(one) + "x", 0, api.ErrLong},
		{digit.Num(api.MaxList + 1), 0, api.ErrLong},
		{digit.Num(2) + digit.Text("x"), 0, api.ErrShort},
		{digit.List("", one), 1, api.ErrShort},
		{digit.List(one, one+"x", ""), 2, api.ErrLong},
		{digit.List(one, one, "\x01\x02"), 3, api.ErrRange},
		{digit.List(one, "\x00\x00\x00\x01\x01\x00\x00\x00\x00\x00\x00"), 2, api.ErrForm},
	} {
		if l, wrong, e := txn.Unpack(x.s); len(l) != 0 || wrong != x.wrong || e != x.e {
			t.Errorf("%q: %v, %d, %v", x.s, l, wrong, e)
		}
	}
}
