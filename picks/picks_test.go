package picks_test

import (
	"math"
	"math/rand"
	"slices"
	"testing"

	"muleteer/api"
	"muleteer/picks"
)

func TestNext(t *testing.T) {
	who := []int{4, 7, 9}
	for n, want := range map[int]int{0: 4, 1: 7, 2: 9, 3: 4, 5: 9, math.MaxInt: who[math.MaxInt%3], -1: api.None, math.MinInt: api.None} {
		if got := picks.Next(who, n); got != want {
			t.Errorf("%d: %d", n, got)
		}
	}
	for _, n := range []int{-1, 0, 1, math.MaxInt} {
		if picks.Next(nil, n) != api.None || picks.Next([]int{}, n) != api.None {
			t.Errorf("%d: somebody of nobody", n)
		}
	}
}

func TestOrders(t *testing.T) {
	want := uint64(1)
	for n := range 13 {
		if n > 0 {
			want *= uint64(n)
		}
		if got := picks.Orders(n); got != want {
			t.Errorf("%d: %d", n, got)
		}
	}
	for _, n := range []int{-1, 13, math.MinInt, math.MaxInt} {
		if picks.Orders(n) != 0 || len(picks.Order(n, 0)) != 0 {
			t.Errorf("%d: %d", n, picks.Orders(n))
		}
	}
}

func TestOrdersComeByteByByte(t *testing.T) {
	for n := range 7 {
		var last []int
		for k := range picks.Orders(n) {
			o := picks.Order(n, k)
			if len(o) != n || k > 0 && slices.Compare(last, o) >= 0 {
				t.Fatalf("%d of %d things: %v behind %v", k, n, o, last)
			}
			if got, ok := picks.Number(o); got != k || !ok {
				t.Fatalf("%v: %d, %v", o, got, ok)
			}
			last = o
		}
	}
	for k, want := range [][]int{{0, 1, 2}, {0, 2, 1}, {1, 0, 2}, {1, 2, 0}, {2, 0, 1}, {2, 1, 0}} {
		if got := picks.Order(3, uint64(k)); !slices.Equal(got, want) {
			t.Errorf("%d: %v", k, got)
		}
	}
}

func TestGreatNumbersGoAround(t *testing.T) {
	for _, n := range []int{1, 2, 5, 12} {
		many := picks.Orders(n)
		for _, k := range []uint64{0, 3, 1 << 40, math.MaxUint64} {
			o := picks.Order(n, k)
			got, ok := picks.Number(o)
			if got != k%many || !ok || !slices.Equal(o, picks.Order(n, k%many)) {
				t.Errorf("%d of %d things: %v", k, n, o)
			}
		}
		last := picks.Order(n, many-1)
		for i, x := range last {
			if x != n-1-i {
				t.Errorf("the last order of %d things: %v", n, last)
			}
		}
	}
}

func TestNumberOfWhatIsNoOrder(t *testing.T) {
	for _, o := range [][]int{{1}, {-1}, {0, 0}, {1, 2}, {0, 2}, {2, 1, 1}, {math.MaxInt, 0}, {0, 1, 2, 3, 4, 5, 6, 7, 8, 9, 10, 11, 12}} {
		if n, ok := picks.Number(o); n != 0 || ok {
			t.Errorf("%v: %d", o, n)
		}
	}
	if n, ok := picks.Number(nil); n != 0 || !ok {
		t.Errorf("nothing: %d, %v", n, ok)
	}
	o := []int{1, 0, 2}
	picks.Number(o)
	if !slices.Equal(o, []int{1, 0, 2}) {
		t.Errorf("what was handed in is changed: %v", o)
	}
}

func TestFair(t *testing.T) {
	for i, x := range []struct {
		row, who []int
		length   int
		want     bool
	}{
		{nil, nil, 1, true}, {nil, []int{1}, 1, true}, {nil, nil, 0, false}, {nil, nil, -1, false}, {[]int{1}, nil, math.MinInt, false},
		{[]int{1, 2, 2, 1}, []int{1, 2}, 2, true}, {[]int{1, 2, 2, 2}, []int{1, 2}, 2, false}, {[]int{1, 1, 2, 1}, []int{1, 2}, 2, false},
		{[]int{1, 2, 2}, []int{1, 2}, 2, true}, {[]int{1, 1, 2}, []int{1, 2}, 4, true}, {[]int{1, 1, 2}, []int{1, 2}, math.MaxInt, true},
		{[]int{1, 1, 2}, []int{1, 2}, 3, true}, {[]int{1, 2, 1}, []int{1, 2}, 1, false}, {[]int{1, 1}, []int{1, 1, 1}, 1, true},
		{[]int{3, 4}, nil, 1, true}, {[]int{1, 2, 3, 1, 2, 4}, []int{1, 2}, 3, true}, {[]int{1, 2, 3, 4, 1, 5}, []int{1, 2}, 3, false},
	} {
		if got := picks.Fair(x.row, x.who, x.length); got != x.want {
			t.Errorf("%d: %v", i, got)
		}
	}
}

func TestARowOfOrdersIsFair(t *testing.T) {
	r := rand.New(rand.NewSource(4))
	for n := 1; n <= 12; n++ {
		var row []int
		for range 20 {
			row = append(row, picks.Order(n, r.Uint64())...)
		}
		if who := picks.Order(n, 0); !picks.Fair(row, who, n) || n > 1 && !picks.Fair(append(row, 99), who, n) || picks.Fair(row, append(who, n), n) {
			t.Errorf("%d things", n)
		}
	}
}

func TestMissing(t *testing.T) {
	for i, x := range []struct{ row, who, want []int }{
		{nil, nil, nil}, {[]int{1}, nil, nil}, {nil, []int{2, 1, 2}, []int{2, 1, 2}},
		{[]int{1, 5}, []int{5, 2, 1, 2, 3, 5}, []int{2, 2, 3}}, {[]int{1, 2, 2}, []int{2, 1, 1}, nil},
		{[]int{-1, math.MaxInt}, []int{math.MaxInt, 0, -1}, []int{0}},
	} {
		if got := picks.Missing(x.row, x.who); !slices.Equal(got, x.want) {
			t.Errorf("%d: %v", i, got)
		}
	}
}
