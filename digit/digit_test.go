package digit_test

import (
	"math"
	"slices"
	"strings"
	"testing"

	"muleteer/api"
	"muleteer/digit"
)

const endless = math.MaxUint64

var numbers = []uint64{0, 1, 2, 127, 128, 255, 256, 300, 1<<16 - 1, 1 << 16, 1<<24 - 1, 1 << 24, 1<<32 - 1, 1 << 32, 1<<40 - 1, 1 << 40, 1<<48 - 1, 1 << 48, 1<<56 - 1, 1 << 56, 1 << 63, endless - 1, endless}

func TestNumBytes(t *testing.T) {
	for n, want := range map[uint64]string{
		0: "\x00", 1: "\x01\x01", 255: "\x01\xff", 256: "\x02\x01\x00", 300: "\x02\x01\x2c",
		1 << 56: "\x08\x01\x00\x00\x00\x00\x00\x00\x00", endless: "\x08\xff\xff\xff\xff\xff\xff\xff\xff",
	} {
		if got := digit.Num(n); got != want {
			t.Errorf("Num(%d): %q", n, got)
		}
	}
}

func TestTextAndListBytes(t *testing.T) {
	long := strings.Repeat("a", 300)
	for s, want := range map[string]string{"": "\x00", "ab": "\x01\x02ab", "\x00": "\x01\x01\x00", long: "\x02\x01\x2c" + long} {
		if got := digit.Text(s); got != want {
			t.Errorf("Text(%q): %q", s, got)
		}
	}
	if got := digit.List(); got != "\x00" {
		t.Errorf("List(): %q", got)
	}
	if got := digit.List("a", "", "bc"); got != "\x01\x03\x01\x01a\x00\x01\x02bc" {
		t.Errorf("List(a, , bc): %q", got)
	}
}

func TestNumErrors(t *testing.T) {
	for _, x := range []struct {
		s    string
		most uint64
		n    uint64
		e    api.Errno
	}{
		{"", endless, 0, api.ErrShort},
		{"\x00", 0, 0, api.OK},
		{"\x01", endless, 0, api.ErrShort},
		{"\x01\x00", endless, 0, api.ErrForm},
		{"\x02\x00", endless, 0, api.ErrForm},
		{"\x02\x01", endless, 0, api.ErrShort},
		{"\x08\x01\x01\x01", endless, 0, api.ErrShort},
		{"\x09", endless, 0, api.ErrForm},
		{"\xff\x01", endless, 0, api.ErrForm},
		{"\x09\x01\x01\x01\x01\x01\x01\x01\x01\x01", endless, 0, api.ErrForm},
		{"\x01\x0a", 10, 10, api.OK},
		{"\x01\x0b", 10, 0, api.ErrRange},
		{"\x01\x01", 0, 0, api.ErrRange},
		{"\x01\x0bx", 10, 0, api.ErrRange},
		{"\x08\xff\xff\xff\xff\xff\xff\xff\xff", endless, endless, api.OK},
		{"\x08\xff\xff\xff\xff\xff\xff\xff\xff", endless - 1, 0, api.ErrRange},
	} {
		r := digit.Read(x.s)
		if n := r.Num(x.most); n != x.n || r.End() != x.e || r.Left() != 0 {
			t.Errorf("%q: %d, %v, %d left", x.s, n, r.End(), r.Left())
		}
	}
}

func TestTextErrors(t *testing.T) {
	for _, x := range []struct {
		s    string
		most int
		want string
		e    api.Errno
	}{
		{"", 9, "", api.ErrShort},
		{"\x01", 9, "", api.ErrShort},
		{"\x01\x00", 9, "", api.ErrForm},
		{"\x09", 9, "", api.ErrForm},
		{"\x01\x02ab", 2, "ab", api.OK},
		{"\x01\x03ab", 2, "", api.ErrLong},
		{"\x01\x03ab", 3, "", api.ErrShort},
		{"\x00", 0, "", api.OK},
		{"\x00", -1, "", api.OK},
		{"\x01\x01a", 0, "", api.ErrLong},
		{"\x01\x01a", -1, "", api.ErrLong},
		{"\x01\x01a", math.MinInt, "", api.ErrLong},
		{"\x08\xff\xff\xff\xff\xff\xff\xff\xffa", math.MaxInt, "", api.ErrLong},
		{"\x08\x7f\xff\xff\xff\xff\xff\xff\xffa", math.MaxInt, "", api.ErrShort},
	} {
		r := digit.Read(x.s)
		if s := r.Text(x.most); s != x.want || r.End() != x.e {
			t.Errorf("%q, %d: %q, %v", x.s, x.most, s, r.End())
		}
	}
}

func TestListErrors(t *testing.T) {
	for _, x := range []struct {
		s    string
		most int
		want []string
		e    api.Errno
	}{
		{"", 9, nil, api.ErrShort},
		{"\x09", 9, nil, api.ErrForm},
		{"\x00", 0, nil, api.OK},
		{"\x00", -5, nil, api.OK},
		{"\x01\x01\x00", 0, nil, api.ErrLong},
		{"\x01\x01\x00", -5, nil, api.ErrLong},
		{"\x01\x02\x00\x01\x01a", 2, []string{"", "a"}, api.OK},
		{"\x01\x02\x00\x01\x01a", 1, nil, api.ErrLong},
		{"\x01\x03\x00\x01\x01a", 3, nil, api.ErrShort},
		{"\x01\x02\x00\x01\x00a", 3, nil, api.ErrForm},
		{"\x01\x01\x08\xff\xff\xff\xff\xff\xff\xff\xff", 3, nil, api.ErrShort},
		{"\x08\x7f\xff\xff\xff\xff\xff\xff\xff\x00", math.MaxInt, nil, api.ErrShort},
		{"\x08\xff\xff\xff\xff\xff\xff\xff\xff\x00", math.MaxInt, nil, api.ErrLong},
	} {
		r := digit.Read(x.s)
		if l := r.List(x.most); !slices.Equal(l, x.want) || r.End() != x.e {
			t.Errorf("%q, %d: %q, %v", x.s, x.most, l, r.End())
		}
	}
}

func TestNothingIsReadBehindAnError(t *testing.T) {
	for _, x := range []struct {
		e    api.Errno
		fail func(r *digit.Reader)
	}{
		{api.ErrRange, func(r *digit.Reader) { r.Num(0) }},
		{api.ErrLong, func(r *digit.Reader) { r.Text(0) }},
		{api.ErrLong, func(r *digit.Reader) { r.List(0) }},
	} {
		r := digit.Read("\x01\x01\x01\x01\x00\x00\x00")
		x.fail(r)
		n, s, l := r.Num(endless), r.Text(9), r.List(9)
		if n != 0 || s != "" || len(l) != 0 || r.Left() != 0 || r.End() != x.e || r.End() != x.e {
			t.Errorf("%d, %q, %q, %d left, %v", n, s, l, r.Left(), r.End())
		}
	}
}

func TestBytesThatAreLeftAreNoErrorThatStays(t *testing.T) {
	r := digit.Read(digit.Num(7) + digit.Text("ab"))
	if r.Left() != 6 || r.End() != api.ErrLong {
		t.Errorf("at the begin: %d, %v", r.Left(), r.End())
	}
	if n := r.Num(7); n != 7 || r.Left() != 4 || r.End() != api.ErrLong || r.Left() != 4 {
		t.Errorf("%d, %d left, %v", n, r.Left(), r.End())
	}
	if s := r.Text(2); s != "ab" || r.Left() != 0 || r.End() != api.OK {
		t.Errorf("%q, %d left, %v", s, r.Left(), r.End())
	}
	one := digit.Read("\x00\x00")
	if n := one.Num(9); n != 0 || one.Left() != 1 || one.End() != api.ErrLong {
		t.Errorf("a 0, and a byte: %d, %d left, %v", n, one.Left(), one.End())
	}
	if n := r.Num(7); n != 0 || r.End() != api.ErrShort {
		t.Errorf("behind the end: %d, %v", n, r.End())
	}
}

func TestNoReader(t *testing.T) {
	var r *digit.Reader
	if r.Num(9) != 0 || r.Text(9) != "" || len(r.List(9)) != 0 || r.Left() != 0 || r.End() != api.ErrArg {
		t.Errorf("a reader that nobody made tells something")
	}
}

func TestWhatWasPutIsReadAsItWas(t *testing.T) {
	for i, n := range numbers {
		r := digit.Read(digit.Num(n))
		if got := r.Num(n); got != n || r.End() != api.OK {
			t.Errorf("%d: %d, %v", n, got, r.End())
		}
		if i == 0 {
			continue
		}
		a, b := digit.Num(numbers[i-1]), digit.Num(n)
		if len(a) > len(b) || a >= b {
			t.Errorf("%q is not ahead of %q", a, b)
		}
	}
	texts := []string{"", "a", "\x00", strings.Repeat("xy", 1000), "\xff\xfe"}
	r := digit.Read(digit.List(texts...) + digit.Text(texts[3]))
	if l := r.List(len(texts)); !slices.Equal(l, texts) {
		t.Errorf("List: %q", l)
	}
	if s := r.Text(2000); s != texts[3] || r.End() != api.OK {
		t.Errorf("Text: %q, %v", s, r.End())
	}
}

// Of all short bytes: what is read without an error has no other bytes.
func TestBytesAreReadInOneWay(t *testing.T) {
	for a := range 256 {
		for b := range 256 {
			for _, tail := range []string{"", "\x00", "\x01", "\xff"} {
				s := string([]byte{byte(a), byte(b)}) + tail
				r := digit.Read(s)
				n := r.Num(endless)
				if e := r.End(); e != api.OK && (e != api.ErrLong || r.Left() == 0) {
					continue
				}
				if digit.Num(n) != s[:len(s)-r.Left()] {
					t.Fatalf("%q is read as %d", s, n)
				}
			}
		}
	}
}
