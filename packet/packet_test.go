package packet_test

import (
	"math"
	"strings"
	"testing"

	"muleteer/api"
	"muleteer/digit"
	"muleteer/packet"
	"muleteer/sha"
)

var long = strings.Repeat("x", api.MaxData)

func right() []api.Packet {
	return []api.Packet{
		{},
		{Chan: 1, Seq: 2, Data: "x"},
		{Chan: 1, From: 1, Seq: 2, Data: "x"},
		{Chan: api.MaxChannels - 1, From: 1, Seq: api.Top, Timeout: api.Top, Data: long},
		{Seq: 2, Timeout: 1},
		{Seq: 1, Timeout: 2},
		{Data: "\x00\xff"},
	}
}

func wrong() []api.Packet {
	return []api.Packet{
		{Chan: -1}, {Chan: math.MinInt}, {Chan: api.MaxChannels}, {Chan: math.MaxInt},
		{From: -1}, {From: 2}, {From: math.MaxInt}, {From: math.MinInt},
		{Data: long + "x"},
	}
}

func TestRightAndPut(t *testing.T) {
	for i, p := range right() {
		if _, e := packet.Put(p); !packet.Right(p) || e != api.OK {
			t.Errorf("%d: %v, %v", i, packet.Right(p), e)
		}
	}
	for i, p := range wrong() {
		if s, e := packet.Put(p); packet.Right(p) || s != "" || e != api.ErrArg {
			t.Errorf("wrong %d: %v, %q, %v", i, packet.Right(p), s, e)
		}
	}
	if s, _ := packet.Put(api.Packet{Chan: 1, Seq: 2, Data: "x"}); s != "\x01\x01\x00\x01\x02\x00\x01\x01x" {
		t.Errorf("the example: %q", s)
	}
	if s, _ := packet.Put(api.Packet{Chan: 3, From: 1, Seq: 256, Timeout: 9, Data: "ab"}); s != "\x01\x03\x01\x01\x02\x01\x00\x01\x09\x01\x02ab" {
		t.Errorf("all fields: %q", s)
	}
}

func TestWhatWasPutIsGot(t *testing.T) {
	seen := map[string]int{}
	for i, p := range right() {
		s, _ := packet.Put(p)
		if got, e := packet.Get(s); got != p || e != api.OK {
			t.Errorf("%d: %v, %v", i, got, e)
		}
		if j, ok := seen[s]; ok {
			t.Errorf("%d and %d have the same bytes", i, j)
		}
		seen[s] = i
	}
}

func TestGetErrors(t *testing.T) {
	whole, _ := packet.Put(api.Packet{Chan: 1, From: 1, Seq: 3, Timeout: 4, Data: "abc"})
	for i := range len(whole) {
		if p, e := packet.Get(whole[:i]); p != (api.Packet{}) || e != api.ErrShort {
			t.Errorf("%d bytes: %v, %v", i, p, e)
		}
	}
	for s, want := range map[string]api.Errno{
		whole + "\x00":                        api.ErrLong,
		"\x01\x04\x00\x00\x00\x00":            api.ErrRange,
		"\x00\x01\x02\x00\x00\x00":            api.ErrRange,
		"\x00\x00\x00\x00\x01\x41" + long:     api.ErrLong,
		"\x00\x00\x00\x00\x01\x40" + long[1:]: api.ErrShort,
		"\x00\x00\x09\x00\x00":                api.ErrForm,
		"\x00\x00\x01\x00\x00\x00":            api.ErrForm,
	} {
		if p, e := packet.Get(s); p != (api.Packet{}) || e != want {
			t.Errorf("%q: %v, %v", s, p, e)
		}
	}
}

func TestTake(t *testing.T) {
	a, b := api.Packet{Seq: 1, Data: "a"}, api.Packet{Chan: 2, From: 1, Timeout: 7}
	first, _ := packet.Put(a)
	second, _ := packet.Put(b)
	r := digit.Read(first + second + "\x01")
	if p := packet.Take(r); p != a || r.Left() != len(second)+1 {
		t.Errorf("the first one: %v", p)
	}
	if p := packet.Take(r); p != b || r.Left() != 1 || r.End() != api.ErrLong {
		t.Errorf("the second one: %v", p)
	}
	if p := packet.Take(r); p != (api.Packet{}) || r.End() != api.ErrShort {
		t.Errorf("behind the end: %v, %v", p, r.End())
	}
	if p := packet.Take(r); p != (api.Packet{}) {
		t.Errorf("behind an error: %v", p)
	}
	if p := packet.Take(nil); p != (api.Packet{}) {
		t.Errorf("no reader: %v", p)
	}
	r = digit.Read("\x01\x02\x01\x01\x01\x05\x00\x01\x05ab")
	if p := packet.Take(r); p != (api.Packet{}) || r.End() != api.ErrShort {
		t.Errorf("a part of a packet: %v, %v", p, r.End())
	}
}

func TestSum(t *testing.T) {
	seen := map[sha.Sum]int{}
	for i, p := range right() {
		s, _ := packet.Put(p)
		if packet.Sum(p) != sha.Of(s) {
			t.Errorf("%d: %x", i, packet.Sum(p))
		}
		if j, ok := seen[packet.Sum(p)]; ok {
			t.Errorf("%d and %d have the same sum", i, j)
		}
		seen[packet.Sum(p)] = i
	}
	for i, p := range wrong() {
		if packet.Sum(p) != (sha.Sum{}) {
			t.Errorf("wrong %d: %x", i, packet.Sum(p))
		}
	}
}

func TestAck(t *testing.T) {
	for _, data := range []string{"", "abc", long, long + "beyond"} {
		sum := sha.Of(data)
		want := "\x01" + string(sum[:4])
		if got := packet.Ack(api.Packet{Chan: -7, From: 9, Seq: 3, Data: data}); got != want {
			t.Errorf("%q: %q", data, got)
		}
	}
}

func TestKeyAndName(t *testing.T) {
	if k := packet.Key(api.Packet{Chan: 2, From: 1, Seq: 9, Timeout: 5, Data: "x"}); k != (api.Key{Chan: 2, From: 1, Seq: 9}) {
		t.Errorf("Key: %v", k)
	}
	for k, want := range map[api.Key]string{
		{Seq: 5}:                             "0a5",
		{Chan: 3, From: 1}:                   "3b0",
		{Chan: -2, From: 7, Seq: api.Top}:    "-2b18446744073709551615",
		{Chan: 10, From: -1, Seq: 1}:         "10b1",
		{Chan: math.MinInt, From: 0, Seq: 1}: "-9223372036854775808a1",
	} {
		if got := packet.Name(k); got != want {
			t.Errorf("%v: %s", k, got)
		}
	}
}

func TestLess(t *testing.T) {
	rising := []api.Key{
		{Chan: math.MinInt, From: 5, Seq: 9}, {Chan: -1}, {From: -1, Seq: 7}, {}, {Seq: 1}, {Seq: api.Top}, {From: 1}, {From: 1, Seq: 3},
		{Chan: 1}, {Chan: 1, Seq: 2}, {Chan: 1, From: 1, Seq: 1}, {Chan: math.MaxInt},
	}
	for i, a := range rising {
		for j, b := range rising {
			if packet.Less(a, b) != (i < j) {
				t.Errorf("%v and %v", a, b)
			}
		}
	}
}
