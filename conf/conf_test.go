package conf_test

import (
	"math"
	"slices"
	"testing"

	"muleteer/api"
	"muleteer/conf"
)

// part is a field of a config: its word, its bounds, and how it is set.
type part struct {
	word        string
	least, most int
	set         func(c *api.Config, n int)
}

func parts() []part {
	return []part{
		{"channels", 1, api.MaxChannels, func(c *api.Config, n int) { c.Ordered = make([]bool, max(0, min(n, 99))) }},
		{"accounts", 1, api.MaxAccounts, func(c *api.Config, n int) { c.Accounts = n }},
		{"shards", 1, api.MaxShards, func(c *api.Config, n int) { c.Shards = n }},
		{"room", 1, api.MaxRoom, func(c *api.Config, n int) { c.Room = n }},
		{"pool", 1, api.MaxPool, func(c *api.Config, n int) { c.Pool = n }},
		{"block", 1, api.MaxBlock, func(c *api.Config, n int) { c.Block = n }},
		{"batch", 1, api.MaxBatch, func(c *api.Config, n int) { c.Batch = n }},
		{"txs", 1, api.MaxTxs, func(c *api.Config, n int) { c.Txs = n }},
		{"scan", 1, api.MaxScan, func(c *api.Config, n int) { c.Scan = n }},
		{"queue", 1, api.MaxQueue, func(c *api.Config, n int) { c.Queue = n }},
		{"wait", 0, api.MaxWait, func(c *api.Config, n int) { c.Wait = n }},
	}
}

func TestCheck(t *testing.T) {
	for i, p := range parts() {
		for n, fine := range map[int]bool{p.least: true, p.most: true, p.least - 1: false, p.most + 1: false, math.MaxInt: false, math.MinInt: false} {
			if i == 0 && n < 0 {
				continue
			}
			c := conf.Plain(2, 1)
			p.set(&c, n)
			wrong, e := conf.Check(c)
			if fine && (wrong != "" || e != api.OK) || !fine && (wrong != p.word || e != api.ErrArg) {
				t.Errorf("%s %d: %q, %v", p.word, n, wrong, e)
			}
		}
	}
	c := conf.Plain(2, 1)
	c.First = api.Top
	if wrong, e := conf.Check(c); wrong != "" || e != api.OK {
		t.Errorf("First may be any: %q, %v", wrong, e)
	}
}

func TestTheFirstFieldThatIsWrongIsTold(t *testing.T) {
	all := parts()
	for i := range all {
		c := conf.Plain(1, 1)
		for _, p := range all[i:] {
			p.set(&c, p.most+1)
		}
		if wrong, e := conf.Check(c); wrong != all[i].word || e != api.ErrArg {
			t.Errorf("from %s on: %q, %v", all[i].word, wrong, e)
		}
	}
	if wrong, e := conf.Check(api.Config{}); wrong != "channels" || e != api.ErrArg {
		t.Errorf("nothing: %q, %v", wrong, e)
	}
}

func TestPlain(t *testing.T) {
	for channels, want := range map[int][]bool{
		math.MinInt: nil, -1: nil, 0: nil, 1: {false}, 2: {false, true}, 3: {false, true, false}, 4: {false, true, false, true},
		5: {false, true, false, true}, math.MaxInt: {false, true, false, true},
	} {
		c := conf.Plain(channels, 3)
		if !slices.Equal(c.Ordered, want) {
			t.Errorf("%d channels: %v", channels, c.Ordered)
		}
		c.Ordered = nil
		if !conf.Same(c, api.Config{Accounts: 3, Shards: 2, Room: 8, Pool: 8, Block: 4, Batch: 3, Txs: 2, Scan: 4, Queue: 6}) {
			t.Errorf("%d channels: %v", channels, c)
		}
	}
	for channels := 1; channels <= api.MaxChannels; channels++ {
		for accounts := 1; accounts <= api.MaxAccounts; accounts++ {
			if wrong, e := conf.Check(conf.Plain(channels, accounts)); e != api.OK {
				t.Errorf("Plain(%d, %d): %s", channels, accounts, wrong)
			}
		}
	}
	for _, n := range []int{-7, 0, 5, math.MaxInt} {
		if c := conf.Plain(1, n); c.Accounts != n {
			t.Errorf("%d accounts: %d", n, c.Accounts)
		}
	}
}

func TestWorkers(t *testing.T) {
	for n := 1; n <= api.MaxChannels; n++ {
		if got := conf.Workers(conf.Plain(n, 1)); got != 2*n {
			t.Errorf("%d channels: %d", n, got)
		}
	}
	for _, c := range []api.Config{{}, conf.Plain(0, 1), conf.Plain(2, 0), conf.Plain(2, 5), {Ordered: make([]bool, 9)}} {
		if got := conf.Workers(c); got != 0 {
			t.Errorf("%v: %d", c, got)
		}
	}
}

func TestDirections(t *testing.T) {
	for n := range 2 * api.MaxChannels {
		channel, from := conf.Dir(n)
		if channel != n/2 || from != n%2 || conf.Number(channel, from) != n {
			t.Errorf("%d: %d, %d, %d", n, channel, from, conf.Number(channel, from))
		}
	}
	if channel, from := conf.Dir(3); channel != 1 || from != 1 {
		t.Errorf("the example: %d, %d", channel, from)
	}
	for _, n := range []int{-1, 8, math.MinInt, math.MaxInt} {
		if channel, from := conf.Dir(n); channel != api.None || from != api.None {
			t.Errorf("%d: %d, %d", n, channel, from)
		}
	}
	for _, x := range [][2]int{{-1, 0}, {4, 0}, {0, -1}, {0, 2}, {math.MaxInt, 0}, {math.MinInt, 1}, {1, math.MaxInt}} {
		if n := conf.Number(x[0], x[1]); n != api.None {
			t.Errorf("%v: %d", x, n)
		}
	}
}

func TestAccount(t *testing.T) {
	for accounts := 1; accounts <= api.MaxAccounts; accounts++ {
		c := conf.Plain(3, accounts)
		for n := range 6 {
			if got := conf.Account(c, n); got != 1+n%accounts {
				t.Errorf("%d accounts, direction %d: %d", accounts, n, got)
			}
		}
		for _, n := range []int{-1, 6, 7, math.MinInt, math.MaxInt} {
			if got := conf.Account(c, n); got != api.None {
				t.Errorf("direction %d: %d", n, got)
			}
		}
	}
	if conf.Account(api.Config{}, 0) != api.None || conf.Account(conf.Plain(1, 0), 0) != api.None {
		t.Errorf("an account of a config that may not be")
	}
}

func TestSameAndCopy(t *testing.T) {
	one := api.Config{Ordered: []bool{false, true}, Accounts: 1, Shards: 2, Room: 3, Pool: 4, Block: 5, Batch: 6, Txs: 3, Scan: 8, Queue: 9, Wait: 1, First: 7}
	others := []func(c *api.Config){
		func(c *api.Config) { c.Ordered = []bool{true, true} },
		func(c *api.Config) { c.Ordered = []bool{false} },
		func(c *api.Config) { c.Ordered = nil },
		func(c *api.Config) { c.Accounts++ }, func(c *api.Config) { c.Shards++ }, func(c *api.Config) { c.Room++ },
		func(c *api.Config) { c.Pool++ }, func(c *api.Config) { c.Block++ }, func(c *api.Config) { c.Batch++ },
		func(c *api.Config) { c.Txs++ }, func(c *api.Config) { c.Scan++ }, func(c *api.Config) { c.Queue++ },
		func(c *api.Config) { c.Wait++ }, func(c *api.Config) { c.First++ },
	}
	for i, change := range others {
		c := conf.Copy(one)
		if !conf.Same(one, c) || !conf.Same(c, one) {
			t.Errorf("a copy is another one")
		}
		change(&c)
		if conf.Same(one, c) || conf.Same(c, one) {
			t.Errorf("%d: still the same", i)
		}
	}
	c := conf.Copy(one)
	c.Ordered[0] = true
	if one.Ordered[0] {
		t.Errorf("a copy shares memory")
	}
	if !conf.Same(api.Config{Ordered: []bool{}}, api.Config{}) {
		t.Errorf("no channels, and none")
	}
}
