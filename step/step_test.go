package step_test

import (
	"math"
	"slices"
	"strings"
	"testing"

	"muleteer/api"
	"muleteer/digit"
	"muleteer/packet"
	"muleteer/step"
)

var long = strings.Repeat("x", api.MaxData)

// told is a step that is right, and its line.
type told struct {
	s    api.Step
	line string
}

func right() []told {
	return []told{
		{api.Step{Kind: api.SpPick}, "pick 0"},
		{api.Step{Kind: api.SpPick, N: 17}, "pick 17"},
		{api.Step{Kind: api.SpPick, N: 1<<31 - 1}, "pick 2147483647"},
		{api.Step{Kind: api.SpTick}, "tick 0"},
		{api.Step{Kind: api.SpTick, Side: 1}, "tick 1"},
		{api.Step{Kind: api.SpSend}, "send 0 0 0 -"},
		{api.Step{Kind: api.SpSend, P: api.Packet{From: 1, Timeout: 9, Data: "A"}}, "send 0 1 9 41"},
		{api.Step{Kind: api.SpSend, P: api.Packet{Chan: 3, Timeout: api.Top, Data: "\x00\xffa"}}, "send 3 0 18446744073709551615 00ff61"},
		{api.Step{Kind: api.SpSend, P: api.Packet{Data: long}}, "send 0 0 0 " + strings.Repeat("78", api.MaxData)},
		{api.Step{Kind: api.SpReject}, "reject 0"},
		{api.Step{Kind: api.SpReject, Side: 1}, "reject 1"},
		{api.Step{Kind: api.SpCrash}, "crash 0"},
		{api.Step{Kind: api.SpCrash, N: 7}, "crash 7"},
		{api.Step{Kind: api.SpForeign, Side: 1, N: 2}, "foreign 1 2"},
		{api.Step{Kind: api.SpForeign, N: 1}, "foreign 0 1"},
		{api.Step{Kind: api.SpForeign, N: 4}, "foreign 0 4"},
		{api.Step{Kind: api.SpStop}, "stop"},
		{api.Step{Kind: api.SpStart}, "start"},
	}
}

func wrong() []api.Step {
	p := api.Packet{Data: "x"}
	l := []api.Step{
		{}, {Kind: -1}, {Kind: 9}, {Kind: math.MinInt}, {Kind: math.MaxInt},
		{Kind: api.SpPick, N: -1}, {Kind: api.SpPick, N: 1 << 31}, {Kind: api.SpPick, N: math.MinInt}, {Kind: api.SpPick, Side: 1},
		{Kind: api.SpTick, Side: 2}, {Kind: api.SpTick, Side: -1}, {Kind: api.SpTick, N: 1}, {Kind: api.SpTick, Side: math.MaxInt},
		{Kind: api.SpReject, Side: 2}, {Kind: api.SpReject, Side: -1}, {Kind: api.SpReject, N: 1},
		{Kind: api.SpSend, Side: 1}, {Kind: api.SpSend, N: 1}, {Kind: api.SpSend, P: api.Packet{Seq: 1}}, {Kind: api.SpSend, P: api.Packet{Chan: 4}},
		{Kind: api.SpSend, P: api.Packet{Data: long + "x"}}, {Kind: api.SpSend, P: api.Packet{From: 2}},
		{Kind: api.SpCrash, N: 8}, {Kind: api.SpCrash, N: -1}, {Kind: api.SpCrash, Side: 1},
		{Kind: api.SpForeign}, {Kind: api.SpForeign, N: 5}, {Kind: api.SpForeign, N: -1}, {Kind: api.SpForeign, Side: 2, N: 1}, {Kind: api.SpForeign, Side: -1, N: 1},
		{Kind: api.SpStop, N: 1}, {Kind: api.SpStart, Side: 1},
	}
	for k := api.SpPick; k <= api.SpStart; k++ {
		if k != api.SpSend {
			l = append(l, api.Step{Kind: k, N: 1, P: p}, api.Step{Kind: k, P: p})
		}
	}
	return l
}

func TestRight(t *testing.T) {
	for i, x := range right() {
		if !step.Right(x.s) {
			t.Errorf("%d: %v", i, x.s)
		}
	}
	for i, s := range wrong() {
		if step.Right(s) {
			t.Errorf("wrong %d: %v", i, s)
		}
		if b, e := step.Put(s); b != "" || e != api.ErrArg {
			t.Errorf("wrong %d: %q, %v", i, b, e)
		}
		if b, e := step.Line(s); b != "" || e != api.ErrArg {
			t.Errorf("wrong %d: %q, %v", i, b, e)
		}
	}
}

func TestBytes(t *testing.T) {
	p := api.Packet{Chan: 1, From: 1, Timeout: 9, Data: "x"}
	body, _ := packet.Put(p)
	for want, s := range map[string]api.Step{
		"\x01\x01\x02\x01\x00":     {Kind: api.SpPick, N: 256},
		"\x01\x02\x01\x01":         {Kind: api.SpTick, Side: 1},
		"\x01\x03" + body:          {Kind: api.SpSend, P: p},
		"\x01\x04\x00":             {Kind: api.SpReject},
		"\x01\x05\x01\x07":         {Kind: api.SpCrash, N: 7},
		"\x01\x06\x01\x01\x01\x02": {Kind: api.SpForeign, Side: 1, N: 2},
		"\x01\x07":                 {Kind: api.SpStop},
		"\x01\x08":                 {Kind: api.SpStart},
	} {
		if b, e := step.Put(s); b != want || e != api.OK {
			t.Errorf("%v: %q, %v", s, b, e)
		}
	}
}

func TestWhatWasPutIsGot(t *testing.T) {
	seen := map[string]int{}
	for i, x := range right() {
		b, e := step.Put(x.s)
		if e != api.OK {
			t.Errorf("%d: %v", i, e)
		}
		if got, e := step.Get(b); got != x.s || e != api.OK {
			t.Errorf("%d: %v, %v", i, got, e)
		}
		if j, ok := seen[b]; ok {
			t.Errorf("%d and %d have the same bytes", i, j)
		}
		seen[b] = i
	}
}

func TestGetErrors(t *testing.T) {
	for b, want := range map[string]api.Errno{
		"":                                 api.ErrShort,
		"\x00":                             api.ErrForm,
		"\x00\x00":                         api.ErrLong,
		"\x01\x09":                         api.ErrRange,
		"\x01\x01":                         api.ErrShort,
		"\x01\x01\x04\x80\x00\x00\x00":     api.ErrRange,
		"\x01\x02\x01\x02":                 api.ErrRange,
		"\x01\x02\x00\x00":                 api.ErrLong,
		"\x01\x03\x00\x00\x01\x01\x00\x00": api.ErrForm,
		"\x01\x03\x01\x04\x00\x00\x00\x00": api.ErrRange,
		"\x01\x04\x01\x02":                 api.ErrRange,
		"\x01\x05\x01\x08":                 api.ErrRange,
		"\x01\x06\x01\x02\x01\x01":         api.ErrRange,
		"\x01\x06\x01\x01\x01\x05":         api.ErrRange,
		"\x01\x06\x01\x01\x00":             api.ErrForm,
		"\x01\x06\x01\x01":                 api.ErrShort,
		"\x01\x07\x00":                     api.ErrLong,
		"\x01\x08\x00":                     api.ErrLong,
	} {
		if s, e := step.Get(b); s != (api.Step{}) || e != want {
			t.Errorf("%q: %v, %v", b, s, e)
		}
	}
}

func TestLineAndParse(t *testing.T) {
	for _, x := range right() {
		if line, e := step.Line(x.s); line != x.line || e != api.OK {
			t.Errorf("%q: %q, %v", x.line, line, e)
		}
		if s, e := step.Parse(x.line); s != x.s || e != api.OK {
			t.Errorf("%q: %v, %v", x.line, s, e)
		}
	}
	for _, line := range []string{
		"", " ", "pick", "pick ", "pick 00", "pick 01", "pick +1", "pick -1", "pick -0", "pick 2147483648", "pick 18446744073709551616", "pick 99999999999999999999",
		"pick 18446744073709551615", "pick 1 ", " pick 1", "pick  1", "pick 1 0", "pick x", "pick 0x1", "pick 1_0", "Pick 1", "pick 1\n", "pick\t1",
		"tick", "tick 2", "tick 0 0", "reject 2", "reject", "crash 8", "crash", "crash -1", "foreign 1", "foreign 0 0", "foreign 0 5", "foreign 2 1", "foreign 0 1 1",
		"stop 0", "start ", "stopp", "none", "send", "send 0 0 0", "send 0 0 0 ", "send 4 0 0 -", "send 0 2 0 -", "send 0 0 18446744073709551616 -",
		"send 0 0 0 4", "send 0 0 0 4g", "send 0 0 0 4G", "send 0 0 0 FF", "send 0 0 0 - -", "send 0 0 0 41 41", "send 0 0 0 --", "send 0 0 0 -41", "send 0 0 0 41-",
		"send 0 0 0 0 41", "send 0 0 00 41", "send 0 0 0 é0", "send 0 0 0 " + strings.Repeat("78", api.MaxData+1),
	} {
		if s, e := step.Parse(line); s != (api.Step{}) || e != api.ErrForm {
			t.Errorf("%q: %v, %v", line, s, e)
		}
	}
}

func all() (l []api.Step, text string) {
	for _, x := range right() {
		l = append(l, x.s)
		text += x.line + "\n"
	}
	return l, text
}

func TestPrintAndRead(t *testing.T) {
	l, want := all()
	text, e := step.Print(l)
	if text != want || e != api.OK {
		t.Errorf("%q, %v", text, e)
	}
	if got, n, e := step.Read(text); !slices.Equal(got, l) || n != 0 || e != api.OK {
		t.Errorf("%v, %d, %v", got, n, e)
	}
	if text, e := step.Print(nil); text != "" || e != api.OK {
		t.Errorf("nothing: %q, %v", text, e)
	}
	if text, e := step.Print([]api.Step{l[0], {}}); text != "" || e != api.ErrArg {
		t.Errorf("a wrong one: %q, %v", text, e)
	}
	many := make([]api.Step, api.MaxList+1)
	if text, e := step.Print(many); text != "" || e != api.ErrFull {
		t.Errorf("too many: %q, %v", text, e)
	}
	if text, e := step.Print(many[1:]); text != "" || e != api.ErrArg {
		t.Errorf("as many wrong ones as may be: %q, %v", text, e)
	}
}

func TestReadErrors(t *testing.T) {
	stop := strings.Repeat("stop\n", api.MaxList)
	for _, x := range []struct {
		text     string
		many, at int
		e        api.Errno
	}{
		{"", 0, 0, api.OK},
		{"stop\n", 1, 0, api.OK},
		{"stop", 0, 0, api.ErrForm},
		{"stop\nx", 0, 0, api.ErrForm},
		{"x\nstop", 0, 0, api.ErrForm},
		{"\n", 0, 1, api.ErrForm},
		{"stop\n\nstart\n", 0, 2, api.ErrForm},
		{"stop\nstart\nx\ny\n", 0, 3, api.ErrForm},
		{"stop\r\n", 0, 1, api.ErrForm},
		{stop, api.MaxList, 0, api.OK},
		{stop + "start", 0, 0, api.ErrForm},
		{stop + "\n", 0, 0, api.ErrFull},
		{stop + "\nstart", 0, 0, api.ErrFull},
		{strings.Repeat("\n", api.MaxList+1), 0, 0, api.ErrFull},
	} {
		l, at, e := step.Read(x.text)
		if len(l) != x.many || at != x.at || e != x.e {
			t.Errorf("%.20q: %d steps, %d, %v", x.text, len(l), at, e)
		}
	}
}

func TestPackAndUnpack(t *testing.T) {
	l, _ := all()
	b, e := step.Pack(l)
	var parts []string
	for _, s := range l {
		p, _ := step.Put(s)
		parts = append(parts, p)
	}
	if b != digit.List(parts...) || e != api.OK {
		t.Errorf("Pack: %q, %v", b, e)
	}
	if got, n, e := step.Unpack(b); !slices.Equal(got, l) || n != 0 || e != api.OK {
		t.Errorf("Unpack: %v, %d, %v", got, n, e)
	}
	if b, e := step.Pack([]api.Step{l[0], {}}); b != "" || e != api.ErrArg {
		t.Errorf("a wrong one: %q, %v", b, e)
	}
	if b, e := step.Pack(make([]api.Step, api.MaxList+1)); b != "" || e != api.ErrFull {
		t.Errorf("too many: %q, %v", b, e)
	}
	if b, e := step.Pack(nil); b != "\x00" || e != api.OK {
		t.Errorf("nothing: %q, %v", b, e)
	}
	for _, x := range []struct {
		b  string
		at int
		e  api.Errno
	}{
		{"", 0, api.ErrShort}, {b + "x", 0, api.ErrLong}, {digit.Num(api.MaxList + 1), 0, api.ErrLong},
		{digit.List(parts[0], "\x00", "\x01\x09"), 2, api.ErrForm}, {digit.List("\x01\x09"), 1, api.ErrRange},
	} {
		if l, at, e := step.Unpack(x.b); len(l) != 0 || at != x.at || e != x.e {
			t.Errorf("%q: %v, %d, %v", x.b, l, at, e)
		}
	}
}
