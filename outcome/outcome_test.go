package outcome_test

import (
	"errors"
	"fmt"
	"math"
	"testing"

	"muleteer/api"
	"muleteer/fault"
	"muleteer/outcome"
)

var names = []string{"", "taken", "stale", "ahead", "crowded", "redundant", "rejected", "fenced", "spent", "wrong", ""}

func TestOutcomes(t *testing.T) {
	for i, o := range []int{outcome.Taken, outcome.Stale, outcome.Ahead, outcome.Crowded, outcome.Redundant, outcome.Rejected, outcome.Fenced, outcome.Spent, outcome.Wrong} {
		if o != i+1 {
			t.Errorf("%d: %d", i+1, o)
		}
	}
	for i, name := range names {
		if outcome.Name(i) != name {
			t.Errorf("%d: %s", i, outcome.Name(i))
		}
	}
	for _, o := range []int{-1, 0, 10, math.MinInt, math.MaxInt} {
		if outcome.Name(o) != "" || outcome.Op(o) != 0 || outcome.Again(o) {
			t.Errorf("%d: %s, %d, %v", o, outcome.Name(o), outcome.Op(o), outcome.Again(o))
		}
	}
}

func TestOf(t *testing.T) {
	foreign := errors.New("foreign")
	for i, x := range []struct {
		e    error
		want int
	}{
		{nil, outcome.Taken},
		{fault.Of(api.ErrNonce, fault.Low, fault.Accounts, fault.Ledger, fault.World), outcome.Stale},
		{fault.Of(api.ErrNonce, fault.High, fault.Accounts, fault.Ledger), outcome.Ahead},
		{api.ErrNonce, outcome.Ahead},
		{fault.Of(api.ErrNonce, fault.High, fault.Low), outcome.Stale},
		{fault.Of(api.ErrPool, fault.Pool, fault.Ledger), outcome.Crowded},
		{fault.Of(api.ErrPool, fault.Low), outcome.Crowded},
		{fault.Of(api.ErrRedundant, fault.Ledger), outcome.Redundant},
		{fault.Of(api.ErrRejected, fault.World), outcome.Rejected},
		{fault.Of(api.ErrEpoch, fault.Numbers, fault.Submit), outcome.Fenced},
		{fault.Of(api.ErrExhausted, fault.Accounts), outcome.Spent},
		{api.ErrArg, outcome.Wrong}, {fault.Of(api.ErrAccount, fault.Accounts), outcome.Wrong},
		{foreign, outcome.Wrong}, {fault.At(fault.Low, foreign), outcome.Wrong}, {api.OK, outcome.Wrong}, {api.Errno(99), outcome.Wrong},
	} {
		if got := outcome.Of(x.e); got != x.want {
			t.Errorf("%d: %v is %s", i, x.e, outcome.Name(got))
		}
		if x.e == nil {
			continue
		}
		// What wraps an error changes its outcome by Low alone.
		for p := 0; p <= fault.Submit+1; p++ {
			want := x.want
			if p == fault.Low && want == outcome.Ahead {
				want = outcome.Stale
			}
			if got := outcome.Of(fault.At(p, x.e)); got != want {
				t.Errorf("%d: %v at %d is %s", i, x.e, p, outcome.Name(got))
			}
		}
		if got := outcome.Of(fmt.Errorf("outside: %w", x.e)); got != x.want {
			t.Errorf("%d: wrapped by another one, %s", i, outcome.Name(got))
		}
	}
}

func TestAFaultThatWrapsItself(t *testing.T) {
	f := &fault.Fault{Place: fault.Low}
	f.Err = fault.At(fault.High, f)
	if got := outcome.Of(f); got != outcome.Wrong {
		t.Errorf("%s", outcome.Name(got))
	}
}

func TestOpAndAgain(t *testing.T) {
	for o, x := range map[int]struct {
		op    int
		again bool
	}{
		outcome.Taken: {api.OpCommit, false}, outcome.Stale: {api.OpResync, true}, outcome.Ahead: {api.OpReturn, true},
		outcome.Crowded: {api.OpReturn, true}, outcome.Redundant: {api.OpReturn, false}, outcome.Rejected: {api.OpReturn, true},
		outcome.Fenced: {0, true}, outcome.Spent: {api.OpReturn, true}, outcome.Wrong: {api.OpReturn, false},
	} {
		if outcome.Op(o) != x.op || outcome.Again(o) != x.again {
			t.Errorf("%s: %d, %v", outcome.Name(o), outcome.Op(o), outcome.Again(o))
		}
	}
}
