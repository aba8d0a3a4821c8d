package wire_test

import (
	"slices"
	"testing"

	"muleteer/api"
	"muleteer/digit"
	"muleteer/wire"
)

func put(s string) (string, api.Errno) {
	if s == "bad" {
		return "", api.ErrArg
	}
	return s + "!", api.OK
}

func get(s string) (string, api.Errno) {
	if s == "" || s[len(s)-1] != '!' {
		return "", api.ErrForm
	}
	return s[:len(s)-1], api.OK
}

func TestFailed(t *testing.T) {
	r := digit.Read("\x00\x00")
	if wire.Failed(r) {
		t.Errorf("failed at the begin")
	}
	r.Num(0)
	if wire.Failed(r) {
		t.Errorf("failed with bytes left")
	}
	r.Text(0)
	if wire.Failed(r) {
		t.Errorf("failed at the end")
	}
	r.Num(0)
	if !wire.Failed(r) || !wire.Failed(nil) {
		t.Errorf("not failed behind an error")
	}
}

func TestPackAndUnpack(t *testing.T) {
	l := []string{"a", "", "b"}
	s, e := wire.Pack(l, put)
	if e != api.OK || s != digit.List("a!", "!", "b!") {
		t.Errorf("Pack: %q, %v", s, e)
	}
	if got, wrong, e := wire.Unpack(s, get); !slices.Equal(got, l) || wrong != 0 || e != api.OK {
		t.Errorf("Unpack: %q, %d, %v", got, wrong, e)
	}
	if s, e := wire.Pack([]string{"a", "bad"}, put); s != "" || e != api.ErrArg {
		t.Errorf("Pack of a bad one: %q, %v", s, e)
	}
	many := make([]string, api.MaxList+1)
	many[0] = "bad"
	if s, e := wire.Pack(many, put); s != "" || e != api.ErrFull {
		t.Errorf("Pack of too many: %q, %v", s, e)
	}
	if _, e := wire.Pack(many[1:], put); e != api.OK {
		t.Errorf("Pack of as many as may be: %v", e)
	}
	if got, wrong, e := wire.Unpack(digit.List("a!", "b", "c"), get); len(got) != 0 || wrong != 2 || e != api.ErrForm {
		t.Errorf("Unpack of a bad one: %q, %d, %v", got, wrong, e)
	}
	if got, wrong, e := wire.Unpack(digit.List("b")+"x", get); len(got) != 0 || wrong != 0 || e != api.ErrLong {
		t.Errorf("Unpack with bytes left: %q, %d, %v", got, wrong, e)
	}
}
