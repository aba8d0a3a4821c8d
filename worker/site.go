package worker

import (
	"muleteer/alloc"
	"muleteer/api"
	"muleteer/conf"
	"muleteer/hist"
	"muleteer/table"
	"muleteer/world"
)

// Site is where workers work.
type Site struct {
	C     api.Config
	World *world.World
	Table *table.Table
	Alloc *alloc.Alloc
	Hist  *hist.Log
}

// At is a new site.
func At(c api.Config) (*Site, api.Errno) {
	if _, e := conf.Check(c); e != api.OK {
		return nil, e
	}
	s := &Site{C: conf.Copy(c), Hist: hist.New()}
	s.World, _ = world.New(c)
	s.Table, _ = table.New(c)
	s.Alloc, _ = alloc.New(c)
	return s, api.OK
}

// Do does an operation.
func (s *Site) Do(o api.Op) api.Ret {
	switch {
	case s == nil:
		return api.Ret{E: api.ErrArg}
	case o.Kind >= api.OpInsert && o.Kind <= api.OpExpire:
		return s.Table.Do(o)
	}
	return s.Alloc.Do(o)
}

// Running is an operation that is under way.
type Running struct {
	site  *Site
	op    api.Op
	ret   api.Ret
	note  int
	done  bool
	ended bool
}

// Begin begins an operation.
func (s *Site) Begin(o api.Op) *Running {
	if s == nil {
		return nil
	}
	return &Running{site: s, op: o, note: s.Hist.Begin(o)}
}

// Step goes on with an operation, and tells whether it has ended.
func (r *Running) Step() bool {
	switch {
	case r == nil:
		return false
	case !r.done:
		r.ret = r.site.Do(r.op)
		r.site.Hist.Done(r.note, r.ret)
		r.done = true
	case !r.ended:
		r.site.Hist.End(r.note)
		r.ended = true
	}
	return r.ended
}

// Told is the operation, and what it told.
func (r *Running) Told() (api.Op, api.Ret) {
	if r == nil {
		return api.Op{}, api.Ret{}
	}
	return r.op, r.ret
}
