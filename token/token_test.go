package token_test

import (
	"math/rand"
	"testing"

	"muleteer/api"
	"muleteer/token"
)

func TestARoot(t *testing.T) {
	r := token.New()
	if r.Off() || r.Reason() != api.OK || r.Depth() != 0 {
		t.Errorf("a new root: %v, %v, %d", r.Off(), r.Reason(), r.Depth())
	}
	if r.Call(api.OK) || r.Off() {
		t.Errorf("called off by OK")
	}
	if !r.Call(api.ErrStopped) || !r.Off() || r.Reason() != api.ErrStopped {
		t.Errorf("%v", r.Reason())
	}
	if r.Call(api.ErrCrash) || r.Call(api.ErrStopped) || r.Call(api.OK) || r.Reason() != api.ErrStopped {
		t.Errorf("a reason changed: %v", r.Reason())
	}
	if x := token.New(); !x.Call(-5) || x.Reason() != -5 {
		t.Errorf("an odd number: %v", x.Reason())
	}
}

func TestWhatHangsOnIt(t *testing.T) {
	r := token.New()
	a, b := r.Child(), r.Child()
	c := a.Child()
	if a.Depth() != 1 || c.Depth() != 2 || r.Depth() != 0 {
		t.Errorf("%d, %d", a.Depth(), c.Depth())
	}
	if !a.Call(api.ErrCrash) || !a.Off() || !c.Off() || r.Off() || b.Off() || c.Reason() != api.ErrCrash {
		t.Errorf("what hangs on one that is called off")
	}
	if !r.Call(api.ErrStopped) || b.Reason() != api.ErrStopped || a.Reason() != api.ErrCrash || c.Reason() != api.ErrCrash {
		t.Errorf("the nearest one's reason: %v, %v, %v", b.Reason(), a.Reason(), c.Reason())
	}
	if !c.Call(api.ErrLate) || c.Reason() != api.ErrLate || a.Reason() != api.ErrCrash {
		t.Errorf("one's own reason: %v", c.Reason())
	}
	if d := c.Child(); d.Reason() != api.ErrLate || d.Depth() != 3 {
		t.Errorf("one that is made later: %v", d.Reason())
	}
}

func TestNoToken(t *testing.T) {
	var n *token.Token
	if n.Off() || n.Reason() != api.OK || n.Depth() != 0 || n.Call(api.ErrStopped) || n.Off() {
		t.Errorf("a token that nobody made tells something")
	}
	if c := n.Child(); c == nil || c.Depth() != 0 || c.Off() || !c.Call(api.ErrStopped) {
		t.Errorf("what hangs on none is no root")
	}
}

// TestTrees holds tokens against reasons that are looked up by hand.
func TestTrees(t *testing.T) {
	r := rand.New(rand.NewSource(3))
	for range 50 {
		l := []*token.Token{token.New()}
		parent := []int{-1}
		own := []api.Errno{api.OK}
		for range 100 {
			i := r.Intn(len(l))
			if r.Intn(3) > 0 {
				l, parent, own = append(l, l[i].Child()), append(parent, i), append(own, api.OK)
			} else {
				code := api.Errno(r.Intn(5))
				if first := own[i] == api.OK && code != api.OK; l[i].Call(code) != first {
					t.Fatalf("Call(%v)", code)
				} else if first {
					own[i] = code
				}
			}
		}
		for i, x := range l {
			want, depth, found := api.OK, -1, false
			for at := i; at >= 0; at = parent[at] {
				if depth++; !found && own[at] != api.OK {
					want, found = own[at], true
				}
			}
			if x.Reason() != want || x.Off() != found || x.Depth() != depth {
				t.Fatalf("%d: %v, %d", i, x.Reason(), x.Depth())
			}
		}
	}
}
