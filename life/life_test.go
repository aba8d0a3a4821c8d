package life_test

import (
	"math"
	"testing"

	"muleteer/api"
	"muleteer/life"
)

func on() bool  { return true }
func off() bool { return false }

// check looks at all that a life tells.
func check(t *testing.T, what string, l *life.Life, state, steps int, exit api.Exit) {
	t.Helper()
	x, ended := l.Exit()
	if l.State() != state || l.Steps() != steps || x != exit || ended != (exit != api.Exit{}) {
		t.Errorf("%s: state %d, %d steps, %v, %v", what, l.State(), l.Steps(), x, ended)
	}
}

func TestStates(t *testing.T) {
	if life.New != 0 || life.Living != 1 || life.Ended != 2 {
		t.Errorf("the states' numbers")
	}
}

func TestALifeThatCrashes(t *testing.T) {
	l := life.Of(3)
	check(t, "new", l, life.New, 0, api.Exit{})
	for i := range 2 {
		if !l.Step(on, false) {
			t.Errorf("step %d: it lives no more", i)
		}
		check(t, "living", l, life.Living, i+1, api.Exit{})
	}
	done := false
	if l.Step(func() bool { done = true; return true }, true) || done {
		t.Errorf("it goes on behind a crash: %v", done)
	}
	end := api.Exit{Who: 3, How: api.ExCrash, Steps: 2}
	check(t, "crashed", l, life.Ended, 2, end)
	for _, crash := range []bool{false, true} {
		if l.Step(func() bool { done = true; return true }, crash) || done {
			t.Errorf("it does something behind its end")
		}
		check(t, "behind its end", l, life.Ended, 2, end)
	}
}

func TestALifeThatStops(t *testing.T) {
	l := life.Of(-7)
	l.Step(on, false)
	if l.Step(off, false) {
		t.Errorf("it goes on")
	}
	check(t, "stopped", l, life.Ended, 2, api.Exit{Who: -7, How: api.ExStopped, Steps: 2})
}

func TestAStepThatPanics(t *testing.T) {
	for i, do := range []func() bool{
		func() bool { panic("x") },
		func() bool { panic(api.ErrCrash) },
		func() bool { panic(nil) },
		func() bool { var l []int; return l[len(l)] == 0 },
		func() bool { var p *api.Packet; return p.Seq == 0 },
	} {
		l := life.Of(i + 1)
		l.Step(on, false)
		if l.Step(do, false) {
			t.Errorf("%d: it goes on", i)
		}
		check(t, "panicked", l, life.Ended, 2, api.Exit{Who: i + 1, How: api.ExCrash, Steps: 2})
	}
}

func TestACrashAheadOfTheFirstStep(t *testing.T) {
	l := life.Of(math.MaxInt)
	if l.Step(on, true) {
		t.Errorf("it goes on")
	}
	check(t, "crashed", l, life.Ended, 0, api.Exit{Who: math.MaxInt, How: api.ExCrash})
}

func TestNoStep(t *testing.T) {
	l := life.Of(1)
	if l.Step(nil, false) || l.Step(nil, true) {
		t.Errorf("no step was done")
	}
	check(t, "new", l, life.New, 0, api.Exit{})
	l.Step(on, false)
	if l.Step(nil, true) {
		t.Errorf("no step was done")
	}
	check(t, "living", l, life.Living, 1, api.Exit{})
}

func TestNoLife(t *testing.T) {
	var l *life.Life
	done := false
	if l.Step(func() bool { done = true; return true }, false) || done {
		t.Errorf("a life that nobody made does something")
	}
	check(t, "none", l, life.Ended, 0, api.Exit{})
}

func TestSafe(t *testing.T) {
	done := 0
	if life.Safe(func() { done++ }) || done != 1 {
		t.Errorf("%d", done)
	}
	if !life.Safe(func() { done++; panic(done) }) || done != 2 {
		t.Errorf("%d", done)
	}
	if !life.Safe(func() { panic(nil) }) || life.Safe(nil) {
		t.Errorf("nothing")
	}
	if life.Safe(func() { life.Safe(func() { panic(1) }); done++ }) || done != 3 {
		t.Errorf("one within the other: %d", done)
	}
}
