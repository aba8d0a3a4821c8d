package queue_test

import (
	"math"
	"math/rand"
	"slices"
	"testing"

	"muleteer/api"
	"muleteer/queue"
)

func TestNew(t *testing.T) {
	for n, code := range map[int]api.Errno{math.MinInt: api.ErrArg, -1: api.ErrArg, 0: api.ErrArg, 1: api.OK, api.MaxList: api.OK, api.MaxList + 1: api.ErrArg, math.MaxInt: api.ErrArg} {
		q, e := queue.New[int](n)
		if e != code || (q != nil) != (code == api.OK) {
			t.Errorf("%d: %v", n, e)
		}
		if code == api.OK && (q.Len() != 0 || q.Room() != n || len(q.All()) != 0) {
			t.Errorf("%d: %d, %d", n, q.Len(), q.Room())
		}
	}
}

func TestRoomForOne(t *testing.T) {
	q, _ := queue.New[int](1)
	if e, f := q.Put(5), q.Put(6); e != api.OK || f != api.ErrFull {
		t.Errorf("%v, %v", e, f)
	}
	if x, ok := q.Peek(); x != 5 || !ok || q.Len() != 1 || q.Room() != 0 {
		t.Errorf("Peek: %d, %v", x, ok)
	}
	if x, ok := q.Get(); x != 5 || !ok || q.Len() != 0 || q.Room() != 1 {
		t.Errorf("Get: %d, %v", x, ok)
	}
	if x, ok := q.Get(); x != 0 || ok {
		t.Errorf("Get of nothing: %d, %v", x, ok)
	}
	if x, ok := q.Peek(); x != 0 || ok {
		t.Errorf("Peek of nothing: %d, %v", x, ok)
	}
}

func TestAnyType(t *testing.T) {
	type thing struct{ a, b string }
	q, _ := queue.New[thing](3)
	q.Put(thing{"x", "y"})
	q.Put(thing{})
	if x, ok := q.Get(); x != (thing{"x", "y"}) || !ok {
		t.Errorf("%v", x)
	}
	if x, ok := q.Get(); x != (thing{}) || !ok {
		t.Errorf("%v", x)
	}
	p, _ := queue.New[*int](2)
	p.Put(nil)
	if x, ok := p.Get(); x != nil || !ok {
		t.Errorf("%v", x)
	}
}

func TestAllAndClear(t *testing.T) {
	q, _ := queue.New[string](3)
	for _, s := range []string{"a", "b", "c"} {
		q.Put(s)
	}
	q.Get()
	q.Put("d")
	if l := q.All(); !slices.Equal(l, []string{"b", "c", "d"}) {
		t.Errorf("%v", l)
	}
	q.All()[0] = "z"
	if s, _ := q.Peek(); s != "b" {
		t.Errorf("All shares memory with the queue")
	}
	q.Clear()
	if _, ok := q.Get(); ok || q.Len() != 0 || q.Room() != 3 || len(q.All()) != 0 {
		t.Errorf("something is left")
	}
	if e := q.Put("e"); e != api.OK || q.Len() != 1 {
		t.Errorf("behind Clear: %v", e)
	}
}

func TestNoQueue(t *testing.T) {
	var q *queue.Queue[int]
	q.Clear()
	x, ok := q.Get()
	y, had := q.Peek()
	if q.Put(1) != api.ErrArg || ok || had || x != 0 || y != 0 || q.Len() != 0 || q.Room() != 0 || len(q.All()) != 0 {
		t.Errorf("a queue that nobody made tells something")
	}
}

func TestOrder(t *testing.T) {
	r := rand.New(rand.NewSource(2))
	for _, room := range []int{1, 4, 50} {
		q, _ := queue.New[int](room)
		var line []int
		for i := range 1000 {
			if r.Intn(5) < 3 {
				e := q.Put(i)
				if full := len(line) == room; full != (e == api.ErrFull) || !full && e != api.OK {
					t.Fatalf("Put: %v", e)
				}
				if e == api.OK {
					line = append(line, i)
				}
			} else if x, ok := q.Get(); ok != (len(line) > 0) || ok && x != line[0] {
				t.Fatalf("Get: %d, %v", x, ok)
			} else if ok {
				line = line[1:]
			}
			if q.Len() != len(line) || q.Len()+q.Room() != room || !slices.Equal(q.All(), line) {
				t.Fatalf("%v and %v", q.All(), line)
			}
		}
	}
}
