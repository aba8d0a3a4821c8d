package dice_test

import (
	"math"
	"slices"
	"strings"
	"testing"

	"muleteer/api"
	"muleteer/conf"
	"muleteer/dice"
	"muleteer/step"
)

func TestThrow(t *testing.T) {
	d := dice.New(0)
	for i, want := range []uint64{16294208416658607535, 0x6e789e6aa1b965f4, 0x06c45d188009454f, 0xf88bb8a8724c81ec, 0x1b39896a51a8749b} {
		if got := d.Throw(); got != want {
			t.Errorf("%d: %d", i, got)
		}
	}
	// The state goes around.
	if dice.New(math.MaxUint64).Throw() == dice.New(0).Throw() || dice.New(1<<63).Throw() != dice.New(1<<63).Throw() {
		t.Errorf("other seeds")
	}
	d = dice.New(math.MaxUint64)
	d.Throw()
	if e := dice.New(11400714819323198484); d.Throw() != e.Throw() {
		t.Errorf("the state is %d", d.Throw())
	}
}

func TestBelow(t *testing.T) {
	a, b := dice.New(7), dice.New(7)
	for _, n := range []int{1, 2, 3, 40, 1000, math.MaxInt} {
		for range 20 {
			if got, want := a.Below(n), int(b.Throw()%uint64(n)); got != want || got < 0 || got >= n {
				t.Errorf("below %d: %d, not %d", n, got, want)
			}
		}
	}
	for _, n := range []int{0, -1, math.MinInt} {
		if a.Below(n) != 0 {
			t.Errorf("below %d", n)
		}
	}
	if a.Throw() != b.Throw() {
		t.Errorf("something was thrown for nothing")
	}
}

// config is a config thrown, as the words say.
func config(d *dice.Dice) api.Config {
	below := func(n uint64) int { return int(d.Throw() % n) }
	var c api.Config
	for range 1 + below(3) {
		c.Ordered = append(c.Ordered, false)
	}
	for i := range c.Ordered {
		c.Ordered[i] = below(3) == 0
	}
	for i, x := range []*int{&c.Accounts, &c.Shards, &c.Room, &c.Pool, &c.Block, &c.Batch, &c.Txs, &c.Scan, &c.Queue} {
		*x = 1 + below([]uint64{2, 3, 5, 5, 3, 3, 2, 4, 5}[i])
	}
	c.Wait = below(3)
	c.First = uint64(below(1000))
	return c
}

// thrown is a step thrown, as the words say.
func thrown(d *dice.Dice, c api.Config) api.Step {
	below := func(n int) int { return int(d.Throw() % uint64(n)) }
	by := below(40)
	switch {
	case by < 28:
		return api.Step{Kind: api.SpPick, N: below(16)}
	case by < 33:
		return api.Step{Kind: api.SpTick, Side: below(2)}
	case by < 36:
		s := api.Step{Kind: api.SpSend}
		s.P.Chan = below(len(c.Ordered))
		s.P.From = below(2)
		if below(2) == 1 {
			s.P.Timeout = uint64(1 + below(20))
		}
		s.P.Data = strings.Repeat("a", below(4))
		return s
	case by == 36:
		return api.Step{Kind: api.SpCrash, N: below(2 * len(c.Ordered))}
	case by == 37:
		side := below(2)
		return api.Step{Kind: api.SpForeign, Side: side, N: 1 + below(c.Accounts)}
	case by == 38:
		return api.Step{Kind: api.SpReject, Side: below(2)}
	}
	if below(4) == 0 {
		return api.Step{Kind: api.SpStop}
	}
	return api.Step{Kind: api.SpStart}
}

func TestConfig(t *testing.T) {
	a, b := dice.New(99), dice.New(99)
	for i := range 300 {
		c := a.Config()
		if want := config(b); !conf.Same(c, want) {
			t.Fatalf("%d: %v, not %v", i, c, want)
		}
		if wrong, e := conf.Check(c); e != api.OK {
			t.Errorf("%d: %s", i, wrong)
		}
	}
}

func TestStepAndScript(t *testing.T) {
	kinds := map[int]int{}
	for seed := range uint64(40) {
		a, b := dice.New(seed), dice.New(seed)
		c := a.Config()
		config(b)
		for i := range 200 {
			s := a.Step(c)
			if want := thrown(b, c); s != want || !step.Right(s) {
				t.Fatalf("%d: %v, not %v", i, s, want)
			}
			kinds[s.Kind]++
		}
		for _, n := range []int{1, 2, 50, api.MaxList} {
			l := a.Script(c, n)
			if len(l) != n || l[0] != (api.Step{Kind: api.SpStart}) {
				t.Fatalf("a script of %d: %d steps", n, len(l))
			}
			for _, s := range l[1:] {
				if s != thrown(b, c) {
					t.Fatalf("a script of %d: %v", n, s)
				}
			}
		}
		if a.Throw() != b.Throw() {
			t.Errorf("seed %d: more was thrown, or less", seed)
		}
	}
	for kind := api.SpPick; kind <= api.SpStart; kind++ {
		if kinds[kind] == 0 {
			t.Errorf("no step of kind %d", kind)
		}
	}
}

func TestWithoutAThrow(t *testing.T) {
	a, b := dice.New(5), dice.New(5)
	fine := conf.Plain(1, 1)
	for _, c := range []api.Config{{}, conf.Plain(0, 1), conf.Plain(1, 7)} {
		if s := a.Step(c); s != (api.Step{}) || len(a.Script(c, 5)) != 0 {
			t.Errorf("%v: %v", c, s)
		}
	}
	for _, n := range []int{0, -1, api.MaxList + 1, math.MinInt, math.MaxInt} {
		if l := a.Script(fine, n); len(l) != 0 {
			t.Errorf("%d: %d steps", n, len(l))
		}
	}
	if a.Throw() != b.Throw() {
		t.Errorf("something was thrown")
	}
}

func TestNoDice(t *testing.T) {
	var d *dice.Dice
	if d.Throw() != 0 || d.Below(9) != 0 || !conf.Same(d.Config(), api.Config{}) || d.Step(conf.Plain(1, 1)) != (api.Step{}) || len(d.Script(conf.Plain(1, 1), 3)) != 0 {
		t.Errorf("dice that nobody made tell something")
	}
}

func TestTheSameSeed(t *testing.T) {
	c := conf.Plain(2, 2)
	if !slices.Equal(dice.New(8).Script(c, 300), dice.New(8).Script(c, 300)) || slices.Equal(dice.New(8).Script(c, 300), dice.New(9).Script(c, 300)) {
		t.Errorf("scripts")
	}
}
