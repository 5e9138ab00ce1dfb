package typed

import "postern/api"

// exprCounts: how many Exprs each kind of statement has, at least and at most.
var exprCounts = [...][2]int{
	api.Let: {1, 1}, api.Set: {1, 1}, api.Put: {2, 2}, api.If: {1, 1}, api.For: {1, 1}, api.Range: {1, 1},
	api.Switch: {1, 1}, api.Return: {0, 2}, api.Print: {1, 1}, api.Break: {0, 0}, api.Continue: {0, 0},
	api.Delete: {1, 1}, api.Do: {1, 1},
}

func (c *checker) block(l []api.Stmt) api.Errno {
	return c.scoped(func() api.Errno {
		for _, s := range l {
			if errno := c.stmt(s); errno != api.OK {
				return errno
			}
		}
		return api.OK
	})
}

func (c *checker) stmt(s api.Stmt) api.Errno {
	if s.Kind < api.Let || s.Kind > api.Do {
		return api.ErrKind
	}
	if n := exprCounts[s.Kind]; len(s.Exprs) < n[0] || len(s.Exprs) > n[1] {
		return api.ErrCount
	}
	if !c.enter() {
		return api.ErrDeep
	}
	defer func() { c.depth-- }()
	switch s.Kind {
	case api.If, api.For, api.Range, api.Switch:
		return c.branching(s)
	case api.Return:
		return c.leaving(s)
	case api.Break, api.Continue:
		if c.loops == 0 {
			return api.ErrUse
		}
		return api.OK
	case api.Do:
		return c.doing(s.Exprs[0])
	case api.Print:
		t, errno := c.value(s.Exprs[0])
		if errno == api.OK && !isPlain(t) {
			errno = api.ErrType
		}
		return errno
	}
	return c.changing(s)
}

// changing: what gives a variable, or a part of one, a value.
func (c *checker) changing(s api.Stmt) api.Errno {
	switch s.Kind {
	case api.Let:
		t, errno := c.value(s.Exprs[0])
		if errno != api.OK {
			return errno
		}
		return c.declare(s.S, t)
	case api.Set:
		t, errno := c.value(s.Exprs[0])
		if errno != api.OK {
			return errno
		}
		return c.wantVar(s.S, t)
	}
	for _, e := range s.Exprs {
		if errno := c.want(e, api.Int); errno != api.OK {
			return errno
		}
	}
	if s.Kind == api.Put {
		return c.wantVar(s.S, api.Slice, api.Map)
	}
	return c.wantVar(s.S, api.Map)
}

// wantVar: a variable of that name, of one of these types.
func (c *checker) wantVar(name string, types ...int) api.Errno {
	is, errno := c.declared(name)
	if errno != api.OK {
		return errno
	}
	for _, t := range types {
		if is == t {
			return api.OK
		}
	}
	return api.ErrType
}

func (c *checker) leaving(s api.Stmt) api.Errno {
	if c.result == api.None {
		if len(s.Exprs) != 0 {
			return api.ErrCount
		}
		return api.OK
	}
	if len(s.Exprs) != 1 {
		return api.ErrCount
	}
	return c.want(s.Exprs[0], c.result)
}

func (c *checker) doing(e api.Expr) api.Errno {
	if e.Kind != api.Call {
		return api.ErrForm
	}
	_, errno := c.expr(e)
	return errno
}

// branching: what has blocks.
func (c *checker) branching(s api.Stmt) api.Errno {
	switch s.Kind {
	case api.If:
		if errno := c.want(s.Exprs[0], api.Bool); errno != api.OK {
			return errno
		}
		if errno := c.block(s.Body); errno != api.OK {
			return errno
		}
		return c.block(s.Else)
	case api.For:
		if errno := c.want(s.Exprs[0], api.Bool); errno != api.OK {
			return errno
		}
		return c.loop(s.Body)
	case api.Range:
		return c.ranging(s)
	}
	return c.choosing(s)
}

func (c *checker) loop(body []api.Stmt) api.Errno {
	c.loops++
	defer func() { c.loops-- }()
	return c.block(body)
}

func (c *checker) ranging(s api.Stmt) api.Errno {
	t, errno := c.value(s.Exprs[0])
	if errno != api.OK {
		return errno
	}
	if t == api.Bool {
		return api.ErrType
	}
	return c.scoped(func() api.Errno {
		for _, name := range [...]string{s.S, s.T} {
			if errno := c.declare(name, api.Int); errno != api.OK {
				return errno
			}
		}
		return c.loop(s.Body)
	})
}

func (c *checker) choosing(s api.Stmt) api.Errno {
	if errno := c.want(s.Exprs[0], api.Int); errno != api.OK {
		return errno
	}
	cases := map[int]int{} // places of cases, by their numbers
	for i, one := range s.Cases {
		if len(one.Nums) == 0 {
			return api.ErrCount
		}
		for _, n := range one.Nums {
			if !inBounds(n) {
				return api.ErrRange
			}
			if _, ok := cases[n]; ok {
				return api.ErrTwice
			}
			cases[n] = i
		}
		if errno := c.block(one.Body); errno != api.OK {
			return errno
		}
	}
	return c.block(s.Else)
}
