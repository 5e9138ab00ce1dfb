package code_test

import (
	"reflect"
	"slices"
	"testing"

	"postern/api"
	"postern/code"
)

// TestCopies: of each operator what it asks for, in new memory.
func TestCopies(t *testing.T) {
	n := map[int]int{api.Const: 5, api.Load: 5, api.Store: 5, api.Fail: 5}
	s := map[int]string{api.Math: "+", api.Invoke: "+", api.Show: "+"}
	for op := api.Const; op <= api.Phi; op++ {
		in := api.Instr{Op: op, Ds: []int{1}, As: []int{2, 3}, N: 5, S: "+", To: []int{4}}
		want := api.Instr{Op: op, Ds: []int{1}, As: []int{2, 3}, N: n[op], S: s[op], To: []int{4}}
		l := code.Copies([]api.Instr{in, in})
		if !reflect.DeepEqual(l, []api.Instr{want, want}) || !reflect.DeepEqual(code.Copy(in), want) {
			t.Errorf("%+v, want %+v", l, want)
		}
		l[0].Ds[0], l[0].As[0], l[0].To[0] = 9, 9, 9
		if in.Ds[0] != 1 || in.As[0] != 2 || in.To[0] != 4 || l[1].Ds[0] != 1 {
			t.Errorf("%d: memory is shared", op)
		}
	}
}

func TestAhead(t *testing.T) {
	jump := func(to ...int) []api.Instr { return []api.Instr{{Op: api.Const, To: []int{0}}, {Op: api.Pick, To: to}} }
	leads := code.Leads([][]api.Instr{jump(1, 2, 1), jump(1), {}, jump(-1, 4, 3, 0)})
	if !reflect.DeepEqual(leads, [][]int{{1, 2, 1}, {1}, nil, {-1, 4, 3, 0}}) {
		t.Errorf("%v", leads)
	}
	want := [][]int{{3}, {0, 1}, {0}, {3}}
	if got := code.Ahead(leads); !slices.EqualFunc(got, want, slices.Equal) {
		t.Errorf("%v", got)
	}
}
