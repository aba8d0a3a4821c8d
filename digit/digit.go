// Package digit has numbers, texts and lists as bytes: layer 1, see shared/doc/01-digit.md.
package digit

import (
	"muleteer/api"
	"strings"
)

// widest is how many bytes the greatest number has.
const widest = 8

// endless is a limit that no text and no list goes beyond.
const endless = 1<<64 - 1

// Num is the bytes of a number.
func Num(n uint64) string {
	var digits []byte
	for shift := 8 * (widest - 1); shift >= 0; shift -= 8 {
		b := byte(n >> shift)
		if b != 0 || len(digits) > 0 {
			digits = append(digits, b)
		}
	}
	return string([]byte{byte(len(digits))}) + string(digits)
}

// Text is the bytes of a text.
func Text(s string) string {
	return texts(s)
}

// List is the bytes of texts.
func List(l ...string) string {
	return Num(uint64(len(l))) + texts(l...)
}

func texts(l ...string) string {
	var b strings.Builder
	for _, s := range l {
		b.WriteString(Num(uint64(len(s))))
		b.WriteString(s)
	}
	return b.String()
}

// Reader reads bytes, up to its first error.
type Reader struct {
	rest string
	bad  api.Errno
}

// Read is a reader at the begin.
func Read(s string) *Reader {
	return &Reader{rest: s}
}

// Num reads a number that is at most so great.
func (r *Reader) Num(most uint64) (n uint64) {
	r.read(func() (e api.Errno) {
		n, e = r.number(most)
		return e
	})
	return n
}

// Text reads a text of at most so many bytes.
func (r *Reader) Text(most int) (s string) {
	r.read(func() (e api.Errno) {
		s, e = r.text(limit(most))
		return e
	})
	return s
}

// List reads at most so many texts.
func (r *Reader) List(most int) (l []string) {
	r.read(func() (e api.Errno) {
		l, e = r.list(limit(most))
		return e
	})
	return l
}

// Left is how many bytes are left.
func (r *Reader) Left() int {
	if r == nil {
		return 0
	}
	return len(r.rest)
}

// End is the first error, or tells that bytes are left.
func (r *Reader) End() api.Errno {
	switch {
	case r == nil:
		return api.ErrArg
	case r.bad == api.OK && len(r.rest) > 0:
		return api.ErrLong
	}
	return r.bad
}

// read does what is to be read, unless an error stands ahead of it.
func (r *Reader) read(do func() api.Errno) {
	if r == nil || r.bad != api.OK {
		return
	}
	if r.bad = do(); r.bad != api.OK {
		r.rest = ""
	}
}

func (r *Reader) number(most uint64) (uint64, api.Errno) {
	if r.rest == "" {
		return 0, api.ErrShort
	}
	many := int(r.rest[0])
	if many > widest || many > 0 && len(r.rest) > 1 && r.rest[1] == 0 {
		return 0, api.ErrForm
	}
	if len(r.rest)-1 < many {
		return 0, api.ErrShort
	}
	var n uint64
	for i := 1; i <= many; i++ {
		n = n<<8 | uint64(r.rest[i])
	}
	if n > most {
		return 0, api.ErrRange
	}
	r.rest = r.rest[1+many:]
	return n, api.OK
}

func (r *Reader) text(most uint64) (string, api.Errno) {
	n, e := r.number(endless)
	switch {
	case e != api.OK:
		return "", e
	case n > most:
		return "", api.ErrLong
	case n > uint64(len(r.rest)):
		return "", api.ErrShort
	}
	s := r.rest[:n]
	r.rest = r.rest[n:]
	return s, api.OK
}

func (r *Reader) list(most uint64) ([]string, api.Errno) {
	n, e := r.number(endless)
	switch {
	case e != api.OK:
		return nil, e
	case n > most:
		return nil, api.ErrLong
	}
	var l []string
	for ; n > 0; n-- {
		s, e := r.text(endless)
		if e != api.OK {
			return nil, e
		}
		l = append(l, s)
	}
	return l, api.OK
}

// limit is how many there may be at most: a number below 0 is none.
func limit(most int) uint64 {
	return uint64(max(most, 0))
}
