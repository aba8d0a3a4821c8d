package fnv_test

import (
	hashes "hash/fnv"
	"math"
	"slices"
	"testing"

	"muleteer/api"
	"muleteer/digit"
	"muleteer/fnv"
)

// sum is the hash as Go's library has it.
func sum(s string) uint64 {
	h := hashes.New64a()
	h.Write([]byte(s))
	return h.Sum64()
}

func TestSumAndMore(t *testing.T) {
	if fnv.Sum("") != 14695981039346656037 || fnv.Sum("a") != 12638187200555641996 {
		t.Errorf("%d, %d", fnv.Sum(""), fnv.Sum("a"))
	}
	for _, s := range []string{"", "a", "foobar", "\x00\xff\x80", "é", string(make([]byte, 300))} {
		if fnv.Sum(s) != sum(s) {
			t.Errorf("%q: %d", s, fnv.Sum(s))
		}
		for i := range len(s) + 1 {
			if fnv.More(fnv.Sum(s[:i]), s[i:]) != sum(s) {
				t.Errorf("%q, cut at %d", s, i)
			}
		}
	}
	if fnv.More(7, "") != 7 || fnv.More(0, "\x01") != 1099511628211 || fnv.More(math.MaxUint64, "\x00") != math.MaxUint64-1099511628210 {
		t.Errorf("More of other numbers")
	}
}

var keys = []api.Key{
	{}, {Seq: 1}, {Seq: 300}, {Seq: api.Top}, {From: 1}, {Chan: 1}, {Chan: 3, From: 1, Seq: 77}, {Chan: -1, From: -2, Seq: 5}, {Chan: math.MinInt, From: math.MaxInt},
}

func TestKey(t *testing.T) {
	for _, k := range keys {
		want := sum(digit.Num(uint64(k.Chan)) + digit.Num(uint64(k.From)) + digit.Num(k.Seq))
		if fnv.Key(k) != want {
			t.Errorf("%v: %d", k, fnv.Key(k))
		}
		for _, n := range []int{1, 2, 3, 8, 1000, math.MaxInt} {
			if got := fnv.Shard(k, n); got != int(want%uint64(n)) {
				t.Errorf("%v of %d: %d", k, n, got)
			}
		}
		for _, n := range []int{0, -1, math.MinInt} {
			if got := fnv.Shard(k, n); got != api.None {
				t.Errorf("%v of %d: %d", k, n, got)
			}
		}
	}
	if want := sum("\x08\xff\xff\xff\xff\xff\xff\xff\xff\x08\xff\xff\xff\xff\xff\xff\xff\xfe\x01\x05"); fnv.Key(api.Key{Chan: -1, From: -2, Seq: 5}) != want {
		t.Errorf("numbers below 0")
	}
}

func TestSpread(t *testing.T) {
	for n := 1; n <= api.MaxShards; n++ {
		want := make([]int, n)
		for _, k := range keys {
			want[fnv.Shard(k, n)]++
		}
		if got := fnv.Spread(keys, n); !slices.Equal(got, want) {
			t.Errorf("%d shards: %v", n, got)
		}
		if got := fnv.Spread(nil, n); !slices.Equal(got, make([]int, n)) {
			t.Errorf("no keys, %d shards: %v", n, got)
		}
	}
	for _, n := range []int{0, -1, api.MaxShards + 1, math.MinInt, math.MaxInt} {
		if got := fnv.Spread(keys, n); len(got) != 0 {
			t.Errorf("%d shards: %v", n, got)
		}
	}
}
