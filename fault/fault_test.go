package fault_test

import (
	"errors"
	"fmt"
	"math"
	"slices"
	"testing"

	"muleteer/api"
	"muleteer/fault"
)

var foreign = errors.New("foreign")

func TestPlacesAreCounted(t *testing.T) {
	places := []int{fault.Low, fault.High, fault.Accounts, fault.Pool, fault.Line, fault.Ledger, fault.World, fault.Numbers, fault.Submit}
	names := []string{"low", "high", "accounts", "pool", "line", "ledger", "world", "numbers", "submit"}
	for i, p := range places {
		if p != i+1 || fault.Name(p) != names[i] {
			t.Errorf("%d: %d, %s", i+1, p, fault.Name(p))
		}
	}
	for _, p := range []int{0, -1, 10, math.MaxInt, math.MinInt} {
		if fault.Name(p) != "" {
			t.Errorf("%d: %s", p, fault.Name(p))
		}
	}
}

func TestAt(t *testing.T) {
	if e := fault.At(fault.Low, nil); e != nil {
		t.Errorf("of no error: %v", e)
	}
	e := fault.At(fault.Pool, foreign)
	f, ok := e.(*fault.Fault)
	if !ok || f.Place != fault.Pool || f.Err != foreign || f.Unwrap() != foreign || errors.Unwrap(e) != foreign {
		t.Errorf("%v", e)
	}
}

func TestOf(t *testing.T) {
	if fault.Of(api.OK) != nil || fault.Of(api.OK, fault.Low, fault.High) != nil {
		t.Errorf("an error of OK")
	}
	if e := fault.Of(api.ErrNonce); e != error(api.ErrNonce) {
		t.Errorf("without places: %v", e)
	}
	e := fault.Of(api.ErrNonce, fault.Low, fault.Accounts)
	if !slices.Equal(fault.Places(e), []int{fault.Accounts, fault.Low}) || fault.Code(e) != api.ErrNonce {
		t.Errorf("%v, %v", fault.Places(e), fault.Code(e))
	}
	if fault.Text(e) != "accounts: low: nonce" || e.Error() != "accounts: low: nonce" {
		t.Errorf("the example: %s, %v", fault.Text(e), e)
	}
}

func TestNoFault(t *testing.T) {
	var f *fault.Fault
	if f.Error() != "" || f.Unwrap() != nil {
		t.Errorf("%q, %v", f.Error(), f.Unwrap())
	}
	if fault.Code(nil) != api.OK || fault.Has(nil, fault.Low) || len(fault.Places(nil)) != 0 || fault.Text(nil) != "" {
		t.Errorf("no error tells something")
	}
	for _, e := range []error{f, fault.At(fault.Low, f)} {
		if fault.Code(e) != api.ErrArg || fault.Is(e, api.ErrArg) || fault.Has(e, fault.High) || len(fault.Places(e)) > 1 {
			t.Errorf("a fault that nobody made: %v", fault.Code(e))
		}
	}
}

func TestCodeAndIs(t *testing.T) {
	for code := api.ErrArg; code <= api.ErrChannel; code++ {
		for _, e := range []error{
			code, fault.At(fault.World, code), fault.Of(code, 1, 2, 3, 4), fmt.Errorf("outside: %w", code),
			fault.At(fault.Low, fmt.Errorf("between: %w", fault.Of(code, fault.High))),
		} {
			if fault.Code(e) != code || !fault.Is(e, code) {
				t.Errorf("%v: %v, %v", e, fault.Code(e), fault.Is(e, code))
			}
			if fault.Is(e, api.OK) || fault.Is(e, code+1) || fault.Is(e, -code) || fault.Is(e, 0) {
				t.Errorf("%v has other numbers too", e)
			}
		}
	}
	if fault.Is(api.OK, api.OK) || fault.Is(fault.At(fault.Low, api.OK), api.OK) || fault.Code(api.OK) != api.OK {
		t.Errorf("OK is an error")
	}
	if !fault.Is(nil, api.OK) || fault.Is(nil, api.ErrArg) || fault.Is(nil, -1) {
		t.Errorf("no error")
	}
	for _, e := range []error{foreign, fault.At(fault.Low, foreign), fault.At(fault.Low, &fault.Fault{Place: 3})} {
		if fault.Code(e) != api.ErrArg {
			t.Errorf("%v: %v", e, fault.Code(e))
		}
		for code := api.OK; code <= api.ErrChannel; code++ {
			if fault.Is(e, code) {
				t.Errorf("%v is %v", e, code)
			}
		}
	}
}

func TestHas(t *testing.T) {
	e := fault.Of(api.ErrPool, fault.Pool, fault.Ledger, fault.World, 77)
	for p := -2; p < 100; p++ {
		want := p == fault.Pool || p == fault.Ledger || p == fault.World || p == 77
		if fault.Has(e, p) != want {
			t.Errorf("%d: %v", p, !want)
		}
	}
	if fault.Has(api.ErrPool, fault.Pool) || fault.Has(foreign, 0) || !fault.Has(fault.At(0, foreign), 0) {
		t.Errorf("places of errors without faults")
	}
}

func TestPlaces(t *testing.T) {
	for _, x := range []struct {
		e    error
		want []int
	}{
		{api.ErrNone, nil},
		{foreign, nil},
		{fault.At(fault.Submit, foreign), []int{fault.Submit}},
		{fault.Of(api.ErrNone, 5, 5, -1), []int{-1, 5, 5}},
	} {
		if got := fault.Places(x.e); !slices.Equal(got, x.want) {
			t.Errorf("%v: %v", x.e, got)
		}
	}
}

func TestMoreFaultsThanMayBeTold(t *testing.T) {
	var e error = api.ErrFull
	for i := range api.MaxList + 5 {
		e = fault.At(i+1, e)
	}
	l := fault.Places(e)
	if len(l) != api.MaxList || l[0] != api.MaxList+5 || l[len(l)-1] != 6 {
		t.Errorf("%d places", len(l))
	}
	if fault.Code(e) != api.ErrFull || !fault.Is(e, api.ErrFull) || !fault.Has(e, 1) {
		t.Errorf("%v", fault.Code(e))
	}
}

func TestAFaultThatWrapsItself(t *testing.T) {
	f := &fault.Fault{Place: fault.Low}
	f.Err = fault.At(fault.High, f)
	if fault.Code(f) != api.ErrArg || fault.Is(f, api.ErrArg) || fault.Has(f, fault.Pool) || len(fault.Places(f)) != api.MaxList {
		t.Errorf("%v, %d places", fault.Code(f), len(fault.Places(f)))
	}
}

func TestText(t *testing.T) {
	for want, e := range map[string]error{
		"not owner":                         api.ErrNotOwner,
		"arg":                               foreign,
		"submit: arg":                       fault.At(fault.Submit, foreign),
		": low: exhausted":                  fault.Of(api.ErrExhausted, fault.Low, 99),
		"submit: world: ledger: pool: pool": fault.Of(api.ErrPool, fault.Pool, fault.Ledger, fault.World, fault.Submit),
		"high: unknown":                     fault.Of(99, fault.High),
	} {
		if got := fault.Text(e); got != want {
			t.Errorf("%q: %q", want, got)
		}
		if f, ok := e.(*fault.Fault); ok && f.Error() != want {
			t.Errorf("%q: %q", want, f.Error())
		}
	}
}

func TestWhatIsWrappedKeepsItsNumber(t *testing.T) {
	for _, e := range []error{api.ErrLate, fault.Of(api.ErrLate, fault.Line), foreign} {
		for p := 1; p <= fault.Submit; p++ {
			w := fault.At(p, e)
			if fault.Code(w) != fault.Code(e) || len(fault.Places(w)) != len(fault.Places(e))+1 || fault.Places(w)[0] != p {
				t.Errorf("%v at %d: %v", e, p, fault.Places(w))
			}
		}
	}
}
