package comp

import (
	"postern/alloc"
	"postern/api"
	"postern/ssa"
)

// step on the way from code of a program to machine code.
type step func(p api.Program, c api.Code) (api.Code, api.Errno)

// function of a program as machine code.
//
// Leaving out what is not needed can fail where limits would be passed on the way, and it can bring in more than it leaves out, as values that meet are moved. Then the machine code is as it is without that.
func function(p api.Program, c api.Code, opt bool) (api.Code, api.Errno) {
	m, errno := alloc.Alloc(p, c)
	if errno != api.OK || !opt {
		return m, errno
	}
	less, errno := through(p, c, ssa.Build, ssa.Opt, ssa.Back, alloc.Alloc)
	if errno != api.OK || instrs(less) > instrs(m) {
		return m, api.OK
	}
	return less, api.OK
}

// through some steps, as long as none refuses.
func through(p api.Program, c api.Code, steps ...step) (api.Code, api.Errno) {
	for _, do := range steps {
		var errno api.Errno
		if c, errno = do(p, c); errno != api.OK {
			return api.Code{}, errno
		}
	}
	return c, api.OK
}

// instrs: how many there are.
func instrs(c api.Code) int {
	n := 0
	for _, b := range c.Blocks {
		n += len(b)
	}
	return n
}
