package read

import "postern/api"

// typeWords: types by their numbers; None has no word.
var typeWords = [...]string{api.Int: "int", api.Bool: "bool", api.Str: "string", api.Slice: "slice", api.Map: "map"}

func (r *reader) functions() ([]api.Func, bool) {
	var fs []api.Func
	for r.peek().kind != end {
		at := r.peek().at
		f, ok := r.function()
		if !ok {
			return nil, false
		}
		if len(fs) == api.MaxFuncs {
			return nil, r.fail(at, api.ErrSize)
		}
		fs = append(fs, f)
	}
	return fs, true
}

func (r *reader) function() (api.Func, bool) {
	var f api.Func
	at := r.peek().at
	if !r.keyword("func") {
		return api.Func{}, false
	}
	var ok bool
	if f.Name, ok = r.name(); !ok {
		return api.Func{}, false
	}
	if f.Params, ok = r.params(); !ok {
		return api.Func{}, false
	}
	if len(f.Params) > api.MaxParams {
		return api.Func{}, r.fail(at, api.ErrCount)
	}
	f.Result = r.skipType()
	f.Body, ok = r.block()
	return f, ok
}

func (r *reader) params() ([]api.Param, bool) {
	var l []api.Param
	ok := r.listed(func() bool {
		s, ok := r.name()
		if !ok {
			return false
		}
		t := r.skipType()
		if t == api.None {
			return r.refuse()
		}
		l = append(l, api.Param{Name: s, Type: t})
		return true
	})
	return l, ok
}

// skipType: the type that is next; None, if there is none.
func (r *reader) skipType() int {
	p := r.peek()
	if p.kind != keyword {
		return api.None
	}
	for t, word := range typeWords {
		if word == p.s {
			r.step()
			return t
		}
	}
	return api.None
}
