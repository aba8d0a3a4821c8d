package sha_test

import (
	"crypto/sha256"
	"math"
	"strings"
	"testing"

	"muleteer/api"
	"muleteer/sha"
)

func sample(n int) string {
	b := make([]byte, n)
	for i := range b {
		b[i] = byte(i*i + 7*i + n)
	}
	return string(b)
}

func TestOf(t *testing.T) {
	for n := range 300 {
		s := sample(n)
		if got := sha.Of(s); got != sha.Sum(sha256.Sum256([]byte(s))) {
			t.Errorf("%d bytes: %x", n, got)
		}
	}
	if s := sample(100000); sha.Of(s) != sha.Sum(sha256.Sum256([]byte(s))) {
		t.Errorf("many bytes")
	}
	if h := sha.Hex(sha.Of("abc")); h != "ba7816bf8f01cfea414140de5dae2223b00361a396177a9cb410ff61f20015ad" {
		t.Errorf("abc: %s", h)
	}
}

func TestWhereBytesAreCutMakesNoDifference(t *testing.T) {
	s := sample(200)
	whole := sha.Of(s)
	for i := range len(s) + 1 {
		if sha.Of(s[:i], s[i:]) != whole || sha.Of("", s[:i], "", s[i:], "") != whole {
			t.Errorf("cut at %d", i)
		}
	}
	if sha.Of() != sha.Of("") || sha.Of() != sha.Sum(sha256.Sum256(nil)) {
		t.Errorf("nothing")
	}
}

func TestPad(t *testing.T) {
	for n := range 300 {
		p := sha.Pad(n)
		if (n+len(p))%64 != 0 || len(p) < 9 || len(p) > 72 {
			t.Errorf("%d: %d bytes", n, len(p))
		}
		noughts := len(p) - 9
		bits := 8 * n
		want := "\x80" + strings.Repeat("\x00", noughts+6) + string([]byte{byte(bits >> 8), byte(bits)})
		if p != want {
			t.Errorf("%d: %q", n, p)
		}
	}
	for _, n := range []int{-1, math.MinInt, 1<<60 + 1, math.MaxInt} {
		if p := sha.Pad(n); p != "" {
			t.Errorf("%d: %q", n, p)
		}
	}
	if p := sha.Pad(1 << 60); len(p) != 64 || p[56:] != "\x80\x00\x00\x00\x00\x00\x00\x00" || p[0] != 0x80 {
		t.Errorf("2^60: %q", p)
	}
}

func TestTurn(t *testing.T) {
	for _, n := range []int{0, 1, 63, 65, 128} {
		if state, e := sha.Turn(sha.Start(), sample(n)); e != api.ErrArg || state != [8]uint32{} {
			t.Errorf("%d bytes: %v", n, e)
		}
	}
	state, e := sha.Turn(sha.Start(), "abc"+sha.Pad(3))
	if e != api.OK || state[0] != 0xba7816bf || state[7] != 0xf20015ad {
		t.Errorf("abc: %x, %v", state, e)
	}
	first := sha.Start()
	if _, e := sha.Turn(first, sample(64)); e != api.OK || first != sha.Start() {
		t.Errorf("the state that was handed in is another one")
	}
	if state, _ := sha.Turn([8]uint32{}, strings.Repeat("\x00", 64)); state == ([8]uint32{}) {
		t.Errorf("noughts: %x", state)
	}
}

func TestStart(t *testing.T) {
	if s := sha.Start(); s != [8]uint32{0x6a09e667, 0xbb67ae85, 0x3c6ef372, 0xa54ff53a, 0x510e527f, 0x9b05688c, 0x1f83d9ab, 0x5be0cd19} {
		t.Errorf("%x", s)
	}
}

func TestHexAndParse(t *testing.T) {
	for _, s := range []sha.Sum{{}, sha.Of(""), sha.Of("abc"), {0: 0xff, 31: 0x0a}} {
		h := sha.Hex(s)
		if got, e := sha.Parse(h); len(h) != 64 || got != s || e != api.OK {
			t.Errorf("%s: %x, %v", h, got, e)
		}
	}
	right := sha.Hex(sha.Of("abc"))
	for _, s := range []string{
		"", "b", right[1:], right + "0", strings.ToUpper(right), strings.Repeat("g", 64), strings.Repeat("/", 64),
		strings.Repeat(":", 64), strings.Repeat("`", 64), right[:63] + "G", " " + right[1:], strings.Repeat("é", 32),
	} {
		if got, e := sha.Parse(s); e != api.ErrForm || got != (sha.Sum{}) {
			t.Errorf("%q: %x, %v", s, got, e)
		}
	}
}
