package comp_test

import (
	"strings"
	"testing"

	"postern/api"
	"postern/lower"
	"postern/read"
	"postern/typed"
)

// wantMeant: a source is refused as its layers refuse it, or does what its code does.
func wantMeant(t *testing.T, what int, s string, spare int) (api.Run, api.Errno) {
	t.Helper()
	fs, at, errno := read.Read(s)
	if errno == api.OK {
		at, errno = typed.Check(fs)
	}
	if errno != api.OK {
		wantWrong(t, s, at, errno)
		return api.Run{}, errno
	}
	p, errno := lower.Lower(fs)
	if errno != api.OK {
		wantWrong(t, s, 0, errno)
		return api.Run{}, errno
	}
	var r api.Run
	for _, opt := range ways {
		m := mustCompile(t, s, opt)
		wantWhole(t, what, p, m)
		r = wantSame(t, what, p, m, min(api.MaxHeap, len(p.Data)+spare), 20000)
	}
	return r, api.OK
}

// TestDrawnSources do what their code does, with room and without.
func TestDrawnSources(t *testing.T) {
	d := die(11)
	ends, lines := map[int]int{}, 0
	for n := range 300 {
		r, errno := wantMeant(t, n, d.source(), one(&d, d.n(60), d.n(400), api.MaxHeap, api.MaxHeap))
		if errno != api.OK {
			t.Fatalf("%d: %v", n, errno)
		}
		ends[r.End]++
		lines += len(r.Lines)
	}
	for end, least := range map[int]int{api.Done: 100, api.BadAt: 30, api.BadZero: 3, api.BadRoom: 30} {
		if ends[end] < least {
			t.Errorf("%v: too few end by %d", ends, end)
		}
	}
	if lines < 1000 {
		t.Errorf("only %d lines were printed", lines)
	}
}

// spoilt: a source with another word or piece somewhere, or with one less.
func spoilt(d *die, s string) string {
	if d.n(2) == 0 {
		words := strings.Split(s, " ")
		words[d.n(len(words))] = one(d, words...)
		return strings.Join(words, " ")
	}
	i := d.n(len(s) + 1)
	end := min(len(s), i+d.n(3))
	return s[:i] + one(d, "", "", " ", "(", ")", "{", "}", "0", "x", "\"", "+", "return ", "1099511627777", "\x00", "\xff", s[i/2:i]) + s[end:]
}

// TestSpoiltSources are refused as their layers refuse them.
func TestSpoiltSources(t *testing.T) {
	d := die(12)
	seen := map[api.Errno]int{}
	for n := range 1200 {
		_, errno := wantMeant(t, n, spoilt(&d, d.source()), api.MaxHeap)
		seen[errno]++
	}
	for _, errno := range []api.Errno{api.OK, api.ErrSize, api.ErrRange, api.ErrForm, api.ErrNone, api.ErrType} {
		if seen[errno] < 10 {
			t.Errorf("%v: too few are %v", seen, errno)
		}
	}
}
