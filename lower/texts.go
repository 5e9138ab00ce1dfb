package lower

import "postern/api"

// texts of functions: the bytes of all, and the places where they begin.
type texts struct {
	data   []int
	places map[string]int
	over   bool // there is no room for all
}

// textsOf functions; false: they do not fit on a heap.
func textsOf(fs []api.Func) (texts, bool) {
	t := texts{places: map[string]int{}}
	for _, f := range fs {
		t.stmts(f.Body)
	}
	return t, !t.over
}

// stmts: whatever their kinds are, and whether they are ever done.
func (t *texts) stmts(l []api.Stmt) {
	for _, s := range l {
		t.exprs(s.Exprs)
		t.stmts(s.Body)
		for _, c := range s.Cases {
			t.stmts(c.Body)
		}
		t.stmts(s.Else)
	}
}

func (t *texts) exprs(l []api.Expr) {
	for _, e := range l {
		if e.Kind == api.Text {
			t.add(e.S)
		}
		t.exprs(e.Args)
	}
}

func (t *texts) add(s string) {
	if _, ok := t.places[s]; ok {
		return
	}
	if len(s) > api.MaxHeap-len(t.data) {
		t.over = true
		return
	}
	t.places[s] = len(t.data)
	for i := range len(s) {
		t.data = append(t.data, int(s[i]))
	}
}
