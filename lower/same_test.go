package lower_test

import (
	"reflect"
	"testing"

	"quillon/api"
	"quillon/lower"
	"quillon/sample"
)

func wantSame(t *testing.T, a, b api.Prog, want bool, what string) {
	t.Helper()
	if lower.Same(a, b) != want || lower.Same(b, a) != want {
		t.Errorf("%s: Same is not %v", what, want)
	}
}

func TestP10_2SameOfEachPart(t *testing.T) {
	for _, s := range []string{sample.Typed, fullest()} {
		p, q := lowered(t, read(t, s)), lowered(t, read(t, s))
		wantSame(t, p, q, true, "two of a text")
		parts := 0
		eachPart(reflect.ValueOf(&q).Elem(), "", func(v reflect.Value, what string) {
			old := reflect.New(v.Type()).Elem()
			old.Set(v)
			parts++
			switch v.Kind() {
			case reflect.Int:
				v.SetInt(old.Int() + 1)
			case reflect.Uint8, reflect.Uint64:
				v.SetUint(old.Uint() + 1)
			case reflect.String:
				v.SetString(old.String() + "z")
			case reflect.Slice:
				sameOfLists(t, p, &q, v, what)
				return
			default:
				return
			}
			wantSame(t, p, q, false, what)
			v.Set(old)
		})
		if parts < 500 {
			t.Errorf("only %d parts", parts)
		}
		wantSame(t, p, q, true, "all as it was")
	}
}

// sameOfLists is handed a list of q, which is p's same.
func sameOfLists(t *testing.T, p api.Prog, q *api.Prog, v reflect.Value, what string) {
	t.Helper()
	old := reflect.New(v.Type()).Elem()
	old.Set(v)
	n := old.Len()
	v.Set(reflect.MakeSlice(v.Type(), 0, 1))
	wantSame(t, p, *q, n == 0, what+" is empty")
	v.Set(reflect.Zero(v.Type()))
	wantSame(t, p, *q, n == 0, what+" is not there")
	v.Set(reflect.Append(old.Slice3(0, n, n), reflect.Zero(v.Type().Elem())))
	wantSame(t, p, *q, false, what+" is longer")
	if n > 0 {
		v.Set(old.Slice(0, n-1))
		wantSame(t, p, *q, false, what+" is shorter")
	}
	v.Set(old)
}

func TestP10_2SameOfNothing(t *testing.T) {
	wantSame(t, api.Prog{}, api.Prog{}, true, "two of nothing")
	wantSame(t, api.Prog{}, lowered(t, sample.Least()), false, "nothing and the least one")
	wantSame(t, api.Prog{}, api.Prog{Heads: [][]int{}, Metas: []int{}, Steps: []api.Step{}, Acts: []api.Act{}, Tabs: []api.Tab{}, Control: []api.Inst{}, Emit: []int{}, Names: api.Names{Fields: [][]string{}}}, true, "lists that are empty")
	wantSame(t, api.Prog{Heads: [][]int{nil}}, api.Prog{Heads: [][]int{{}}}, true, "empty lists in a list")
	wantSame(t, api.Prog{Heads: [][]int{nil}}, api.Prog{}, false, "a list in a list")
	wantSame(t, api.Prog{Names: api.Names{Fields: [][]string{nil}}}, api.Prog{Names: api.Names{Fields: [][]string{{}}}}, true, "empty lists of names")
	wantSame(t, api.Prog{Control: []api.Inst{{E: api.Code{}}}}, api.Prog{Control: []api.Inst{{}}}, true, "a code without nodes")
	wantSame(t, api.Prog{Control: []api.Inst{{E: api.Code{{}}}}}, api.Prog{Control: []api.Inst{{}}}, false, "a code of a node")
}

func TestP10_2SameCode(t *testing.T) {
	want := func(a, b api.Code, want bool) {
		t.Helper()
		if lower.SameCode(a, b) != want || lower.SameCode(b, a) != want {
			t.Errorf("SameCode of %s and %s is not %v", told(a), told(b), want)
		}
	}
	c := code(t, "field3(1,2) const3=5 add3 slice2(2,1)")
	want(nil, nil, true)
	want(nil, api.Code{}, true)
	want(nil, api.Code{{}}, false)
	want(c, code(t, told(c)), true)
	want(c, c[:3], false)
	want(c, nil, false)
	for n := range c {
		for i, change := range []func(x *api.Node){
			func(x *api.Node) { x.Op++ }, func(x *api.Node) { x.W++ }, func(x *api.Node) { x.A++ }, func(x *api.Node) { x.B-- }, func(x *api.Node) { x.V.Lo++ }, func(x *api.Node) { x.V.Hi++ },
		} {
			d := code(t, told(c))
			change(&d[n])
			if want(c, d, false); lower.SameCode(c, d) {
				t.Errorf("change %d of the node %d", i, n)
			}
		}
	}
}
