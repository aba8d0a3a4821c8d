// Package wire has what several layers share when they put things as bytes and get them back: it stands on api and digit.
package wire

import (
	"muleteer/api"
	"muleteer/digit"
)

// Failed tells whether a reader had an error: bytes that are left are none.
func Failed(r *digit.Reader) bool {
	return r.End() != api.OK && r.Left() == 0
}

// Pack is the list of the bytes of at most MaxList things.
func Pack[T any](l []T, put func(T) (string, api.Errno)) (string, api.Errno) {
	if len(l) > api.MaxList {
		return "", api.ErrFull
	}
	var parts []string
	for _, x := range l {
		s, e := put(x)
		if e != api.OK {
			return "", e
		}
		parts = append(parts, s)
	}
	return digit.List(parts...), api.OK
}

// Unpack are the things of a list of bytes, or which one of them is wrong, from 1 on.
func Unpack[T any](s string, get func(string) (T, api.Errno)) (l []T, wrong int, e api.Errno) {
	r := digit.Read(s)
	parts := r.List(api.MaxList)
	if e := r.End(); e != api.OK {
		return nil, 0, e
	}
	return Each(parts, get)
}

// Each are the things of parts, or which one of them is wrong, from 1 on.
func Each[T any](parts []string, get func(string) (T, api.Errno)) (l []T, wrong int, e api.Errno) {
	for i, part := range parts {
		x, e := get(part)
		if e != api.OK {
			return nil, i + 1, e
		}
		l = append(l, x)
	}
	return l, 0, api.OK
}
