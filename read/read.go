// Package read: sources as functions.
package read

import "postern/api"

// Read the functions of a source; the place of the byte where one that is wrong begins.
func Read(s string) ([]api.Func, int, api.Errno) {
	if len(s) > api.MaxSource {
		return nil, 0, api.ErrSize
	}
	pieces, at, errno := cut(s)
	if errno != api.OK {
		return nil, at, errno
	}
	r := &reader{pieces: pieces}
	fs, ok := r.functions()
	if !ok {
		return nil, r.at, r.errno
	}
	return fs, 0, api.OK
}

// reader goes through the pieces of a source; what refuses a part tells why by at and errno.
type reader struct {
	pieces []piece // the last one is the end of the source
	next   int
	depth  int // so many levels are entered and not left
	at     int
	errno  api.Errno
}

func (r *reader) peek() piece { return r.pieces[r.next] }

// step goes on behind the next piece; the end stays the next one for ever.
func (r *reader) step() {
	if r.peek().kind != end {
		r.next++
	}
}

func (r *reader) fail(at int, errno api.Errno) bool {
	r.at, r.errno = at, errno
	return false
}

// refuse the next piece, as another one must stand there.
func (r *reader) refuse() bool {
	p := r.peek()
	if p.kind == end {
		return r.fail(p.at, api.ErrShort)
	}
	return r.fail(p.at, api.ErrForm)
}

// skip that keyword or mark, if it is next.
func (r *reader) skip(kind int, s string) bool {
	if !r.peek().is(kind, s) {
		return false
	}
	r.step()
	return true
}

func (r *reader) mark(s string) bool { return r.skip(mark, s) || r.refuse() }

func (r *reader) keyword(s string) bool { return r.skip(keyword, s) || r.refuse() }

func (r *reader) name() (string, bool) {
	p := r.peek()
	if p.kind != name {
		return "", r.refuse()
	}
	r.step()
	return p.s, true
}

// enter a level; whoever does defers leaving it.
func (r *reader) enter() bool {
	if r.depth >= api.MaxNest {
		return r.fail(r.peek().at, api.ErrDeep)
	}
	r.depth++
	return true
}

// listed reads any number of items with "," between, in round brackets.
func (r *reader) listed(item func() bool) bool {
	if !r.mark("(") {
		return false
	}
	if r.skip(mark, ")") {
		return true
	}
	for item() {
		if r.skip(mark, ")") {
			return true
		}
		if !r.mark(",") {
			return false
		}
	}
	return false
}
