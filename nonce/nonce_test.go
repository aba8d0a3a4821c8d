package nonce_test

import (
	"math"
	"slices"
	"testing"

	"muleteer/api"
	"muleteer/fault"
	"muleteer/nonce"
)

func book(t *testing.T, first ...uint64) *nonce.Book {
	t.Helper()
	b, e := nonce.New(first)
	if e != api.OK || b == nil {
		t.Fatalf("New(%v): %v", first, e)
	}
	return b
}

// want looks at an error's number and places, the outer one first.
func want(t *testing.T, what string, e error, code api.Errno, places ...int) {
	t.Helper()
	if fault.Code(e) != code || !slices.Equal(fault.Places(e), places) {
		t.Errorf("%s: %v", what, e)
	}
}

func TestNew(t *testing.T) {
	for n := range api.MaxAccounts + 3 {
		b, e := nonce.New(make([]uint64, n))
		if fine := n >= 1 && n <= api.MaxAccounts+1; fine != (e == api.OK) || fine != (b != nil) || !fine && e != api.ErrArg {
			t.Errorf("%d accounts: %v", n, e)
		}
	}
	first := []uint64{5, 0, api.Top}
	b := book(t, first...)
	first[0] = 9
	if b.Count() != 3 || !slices.Equal(b.All(), []uint64{5, 0, api.Top}) {
		t.Errorf("%d, %v", b.Count(), b.All())
	}
	b.All()[0] = 9
	if n, _ := b.Next(0); n != 5 {
		t.Errorf("All shares memory with the book")
	}
}

func TestNext(t *testing.T) {
	b := book(t, 5, api.Top)
	for i, want := range []uint64{5, api.Top} {
		if n, e := b.Next(i); n != want || e != nil {
			t.Errorf("%d: %d, %v", i, n, e)
		}
	}
	for _, i := range []int{-1, 2, math.MinInt, math.MaxInt} {
		n, e := b.Next(i)
		want(t, "Next", e, api.ErrAccount, fault.Accounts)
		if n != 0 {
			t.Errorf("%d: %d", i, n)
		}
	}
}

func TestExpected(t *testing.T) {
	b := book(t, 5, api.Top, api.Top-3)
	for _, x := range []struct {
		account, waiting int
		n                uint64
		code             api.Errno
	}{
		{0, 0, 5, api.OK}, {0, 3, 8, api.OK}, {0, math.MaxInt, 5 + math.MaxInt, api.OK},
		{2, 0, api.Top - 3, api.OK}, {2, 2, api.Top - 1, api.OK}, {2, 3, 0, api.ErrExhausted}, {2, 4, 0, api.ErrExhausted},
		{2, math.MaxInt, 0, api.ErrExhausted}, {1, 0, 0, api.ErrExhausted}, {1, 1, 0, api.ErrExhausted},
		{0, -1, 0, api.ErrArg}, {1, -1, 0, api.ErrArg}, {0, math.MinInt, 0, api.ErrArg},
		{3, 0, 0, api.ErrAccount}, {-1, -1, 0, api.ErrAccount},
	} {
		n, e := b.Expected(x.account, x.waiting)
		if n != x.n {
			t.Errorf("%d, %d: %d", x.account, x.waiting, n)
		}
		if x.code == api.OK {
			want(t, "Expected", e, api.OK)
			continue
		}
		want(t, "Expected", e, x.code, fault.Accounts)
	}
}

func TestCheck(t *testing.T) {
	b := book(t, 5, api.Top)
	for _, n := range []uint64{0, 6, 7} {
		want(t, "low", b.Check(0, n, 3), api.ErrNonce, fault.Accounts, fault.Low)
	}
	for _, n := range []uint64{9, 10, api.Top} {
		want(t, "high", b.Check(0, n, 3), api.ErrNonce, fault.Accounts, fault.High)
	}
	if e := b.Check(0, 8, 3); e != nil {
		t.Errorf("the one that is expected: %v", e)
	}
	want(t, "no account", b.Check(2, 8, -1), api.ErrAccount, fault.Accounts)
	want(t, "waiting", b.Check(0, 8, -1), api.ErrArg, fault.Accounts)
	want(t, "at its end", b.Check(1, api.Top, 0), api.ErrExhausted, fault.Accounts)
	if !slices.Equal(b.All(), []uint64{5, api.Top}) {
		t.Errorf("Check changed the book: %v", b.All())
	}
}

func TestUse(t *testing.T) {
	b := book(t, 5, 0, api.Top-1)
	if e := b.Use(0, 5); e != nil {
		t.Errorf("5: %v", e)
	}
	if n, _ := b.Next(0); n != 6 {
		t.Errorf("behind 5: %d", n)
	}
	e := b.Use(0, 5)
	want(t, "5 once more", e, api.ErrNonce, fault.Accounts, fault.Low)
	if fault.Text(e) != "accounts: low: nonce" {
		t.Errorf("the example: %v", e)
	}
	want(t, "7", b.Use(0, 7), api.ErrNonce, fault.Accounts, fault.High)
	want(t, "no account", b.Use(3, 0), api.ErrAccount, fault.Accounts)
	if !slices.Equal(b.All(), []uint64{6, 0, api.Top - 1}) {
		t.Errorf("an error changed something: %v", b.All())
	}
	if e := b.Use(2, api.Top-1); e != nil {
		t.Errorf("the last number: %v", e)
	}
	want(t, "behind the end", b.Use(2, api.Top), api.ErrExhausted, fault.Accounts)
	want(t, "around", b.Use(2, 0), api.ErrExhausted, fault.Accounts)
	if !slices.Equal(b.All(), []uint64{6, 0, api.Top}) {
		t.Errorf("%v", b.All())
	}
}

func TestNoBook(t *testing.T) {
	var b *nonce.Book
	if b.Count() != 0 || len(b.All()) != 0 {
		t.Errorf("%d, %v", b.Count(), b.All())
	}
	_, e := b.Next(0)
	want(t, "Next", e, api.ErrAccount, fault.Accounts)
	_, e = b.Expected(0, -1)
	want(t, "Expected", e, api.ErrAccount, fault.Accounts)
	want(t, "Check", b.Check(0, 0, 0), api.ErrAccount, fault.Accounts)
	want(t, "Use", b.Use(0, 0), api.ErrAccount, fault.Accounts)
}
