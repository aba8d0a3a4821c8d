package dice_test

import (
	"slices"
	"testing"

	"muleteer/api"
	"muleteer/audit"
	"muleteer/bound"
	"muleteer/crew"
	"muleteer/dice"
	"muleteer/packet"
	"muleteer/relay"
	"muleteer/report"
	"muleteer/run"
)

const scripts = 200

// TestThrownScripts holds the document's promises P1 to P6 against scripts that are thrown.
func TestThrownScripts(t *testing.T) {
	for seed := range uint64(scripts) {
		d := dice.New(seed)
		c := d.Config()
		if seed%5 == 0 {
			c.First = api.Top - 1 - uint64(d.Below(30))
		}
		l := d.Script(c, 1+d.Below(api.MaxList))
		one, codes, e := run.Play(c, l)
		if e != api.OK {
			t.Fatalf("seed %d: %v", seed, e)
		}
		r := one.Relay()
		if found := audit.Look(r); len(found) > 0 {
			t.Errorf("seed %d: found %v", seed, found)
		}
		many, others, _, _ := crew.Play(c, l)
		if !slices.Equal(codes, others) || report.Text(many.Relay()) != report.Text(r) {
			t.Errorf("seed %d: by many it comes to something else", seed)
		}
		if c.First <= 1<<63 {
			settle(t, seed, r, d)
		}
		stop(t, seed, r, c.Accounts)
	}
}

// settle goes on till all is carried: each packet is then told of, once.
func settle(t *testing.T, seed uint64, r *relay.Relay, d *dice.Dice) {
	t.Helper()
	for i := 0; !r.Status().Running && r.Start() != api.OK; i++ {
		r.Pick(i)
	}
	open := bound.Open(r)
	var orders []uint64
	for range d.Below(6) {
		orders = append(orders, d.Throw())
	}
	if n, ok := bound.Settle(r, open, orders, bound.Windows(r)); !ok {
		t.Fatalf("seed %d: not settled in %d windows", seed, n)
	}
	told := map[api.Key]int{}
	for _, m := range r.Site().World.Marks() {
		if m.Event.Kind == api.EvAck || m.Event.Kind == api.EvTimeout {
			told[packet.Key(m.Event.Packet)]++
		}
	}
	for _, k := range open {
		if told[k] != 1 {
			t.Errorf("seed %d: %s was told of %d times", seed, packet.Name(k), told[k])
		}
	}
	if found := audit.Look(r); len(found) > 0 {
		t.Errorf("seed %d: found %v behind all windows", seed, found)
	}
}

// stop stops a relay: behind that nothing is claimed, and no number held.
func stop(t *testing.T, seed uint64, r *relay.Relay, accounts int) {
	t.Helper()
	r.Stop()
	for i := 0; len(r.Who()) > 0; i++ {
		if r.Pick(i); i > 10000 {
			t.Fatalf("seed %d: no end", seed)
		}
	}
	if s := r.Status(); s.Claimed != 0 || s.Made != s.Ends {
		t.Errorf("seed %d: %v", seed, s)
	}
	for who := 1; who <= r.Status().Made; who++ {
		for side := range 2 {
			for account := 1; account <= accounts; account++ {
				if l := r.Site().Alloc.Held(side, account, who); len(l) > 0 {
					t.Errorf("seed %d: %d holds %v", seed, who, l)
				}
			}
		}
	}
}
