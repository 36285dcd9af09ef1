package resolve_test

import (
	"reflect"
	"strings"
	"testing"

	"quillon/api"
	"quillon/ast"
	"quillon/resolve"
	"quillon/sample"
)

func wantItems(t *testing.T, p api.Program, want []api.Item) {
	t.Helper()
	got := resolve.Items(p)
	if len(got) != len(want) || len(got) != ast.Items(p) {
		t.Fatalf("%d items, want %d, %d", len(got), len(want), ast.Items(p))
	}
	for i := range got {
		if !reflect.DeepEqual(got[i], want[i]) {
			t.Errorf("item %d is %+v, want %+v", i, got[i], want[i])
		}
	}
}

// item is one that is no statement.
func item(kind uint8, a, b int) api.Item { return api.Item{Kind: kind, A: a, B: b} }

func statement(action int, s api.Stmt) api.Item {
	return api.Item{Kind: api.ItStmt, A: action, S: s}
}

func TestP7_1ItemsOfEachKind(t *testing.T) {
	p := sample.Full()
	c := p.Control
	wantItems(t, p, []api.Item{
		item(api.ItHeader, 0, 0), item(api.ItField, 0, 0), item(api.ItField, 0, 1),
		item(api.ItHeader, 1, 0), item(api.ItField, 1, 0),
		item(api.ItMeta, 0, 0), item(api.ItMeta, 1, 0),
		item(api.ItState, 0, 0), item(api.ItTake, 0, 0), item(api.ItNext, 0, 0),
		item(api.ItCase, 0, 0), item(api.ItCase, 0, 1), item(api.ItCase, 0, 2),
		item(api.ItState, 1, 0), item(api.ItTake, 1, 0), item(api.ItTake, 1, 1), item(api.ItNext, 1, 0),
		item(api.ItState, 2, 0), item(api.ItNext, 2, 0),
		item(api.ItState, 3, 0), item(api.ItNext, 3, 0),
		item(api.ItAction, 0, 0), item(api.ItParam, 0, 0), item(api.ItParam, 0, 1),
		statement(0, p.Actions[0].Body[0]), statement(0, p.Actions[0].Body[1]), statement(0, p.Actions[0].Body[2]),
		item(api.ItAction, 1, 0),
		item(api.ItTable, 0, 0), item(api.ItKey, 0, 0), item(api.ItKey, 0, 1),
		item(api.ItListed, 0, 0), item(api.ItListed, 0, 1), item(api.ItDefault, 0, 0),
		item(api.ItTable, 1, 0), item(api.ItKey, 1, 0), item(api.ItListed, 1, 0), item(api.ItDefault, 1, 0),
		statement(-1, c[0]), statement(-1, c[1]), statement(-1, c[1].Then[0]), statement(-1, c[1].Then[1]),
		statement(-1, c[1].Else[0]), statement(-1, c[1].Else[0].Then[0]), statement(-1, c[2]),
		item(api.ItEmit, 0, 0), item(api.ItEmit, 1, 0),
	})
	wantItems(t, sample.Least(), []api.Item{item(api.ItState, 0, 0), item(api.ItNext, 0, 0)})
}

// Then is gone through whole ahead of Else; all that is in an action's statements is of that action.
func TestP7_1ItemsOfBlocks(t *testing.T) {
	set := func(n uint64) api.Stmt { return api.Stmt{Kind: api.StSet, Name: "m", E: lit(0, n)} }
	block := func(at uint64) []api.Stmt {
		return []api.Stmt{
			set(at),
			when(lit(0, at+1),
				[]api.Stmt{when(lit(0, at+2), []api.Stmt{set(at + 3)}, []api.Stmt{set(at + 4), set(at + 5)}), set(at + 6)},
				[]api.Stmt{when(lit(0, at+7), nil, []api.Stmt{set(at + 8)}), set(at + 9)}),
			set(at + 10),
		}
	}
	p := api.Program{
		Actions: []api.Action{{}, {Params: make([]api.Field, 2), Body: block(100)}, {Body: block(200)}},
		Control: block(300),
		Emit:    []string{"h"},
	}
	want := []struct {
		kind      uint8
		a         int
		statement uint64
	}{
		{api.ItAction, 0, 0}, {api.ItAction, 1, 0}, {api.ItParam, 1, 0}, {api.ItParam, 1, 0},
	}
	add := func(action int, at uint64) {
		for n := range uint64(11) {
			want = append(want, struct {
				kind      uint8
				a         int
				statement uint64
			}{api.ItStmt, action, at + n})
		}
	}
	add(1, 100)
	want = append(want, want[0])
	want[len(want)-1].a = 2
	add(2, 200)
	add(-1, 300)
	want = append(want, want[0])
	want[len(want)-1].kind = api.ItEmit
	got := resolve.Items(p)
	if len(got) != len(want) {
		t.Fatalf("%d items, want %d", len(got), len(want))
	}
	for i, x := range got {
		if x.Kind != want[i].kind || x.A != want[i].a || x.S.E.Lit.N.Lo != want[i].statement {
			t.Errorf("item %d is %+v, want %v", i, x, want[i])
		}
	}
}

// Each item stands where layer 6 says it does: its keyword, or its name, is there.
func TestP7_1ItemsInTheText(t *testing.T) {
	words := map[uint8]string{
		api.ItHeader: "header ", api.ItField: "bit<", api.ItMeta: "bit<", api.ItState: "state ", api.ItTake: "extract(", api.ItNext: "transition ",
		api.ItAction: "action ", api.ItParam: "bit<", api.ItTable: "table ", api.ItDefault: "default ", api.ItEmit: "emit(",
	}
	statements := map[uint8]string{api.StIf: "if (", api.StApply: "apply ", api.StDrop: "drop;", api.StForward: "forward(", api.StValid: "valid ", api.StInvalid: "invalid "}
	for _, s := range []string{whole, sample.FullText, sample.LeastText} {
		p, places := read(t, s)
		l := resolve.Items(p)
		if len(l) != len(places) {
			t.Fatalf("%d items at %d places", len(l), len(places))
		}
		for i, x := range l {
			word := words[x.Kind]
			switch {
			case x.Kind == api.ItStmt && x.S.Kind == api.StSet && x.S.Head == "":
				word = "meta." + x.S.Name + " = "
			case x.Kind == api.ItStmt && x.S.Kind == api.StSet:
				word = x.S.Head + "." + x.S.Name + " = "
			case x.Kind == api.ItStmt:
				word = statements[x.S.Kind]
			case x.Kind == api.ItListed:
				word = p.Tables[x.A].Actions[x.B] + ";"
			}
			if !strings.HasPrefix(s[places[i]:], word) {
				t.Errorf("item %d, %+v, is at %.20q", i, x, s[places[i]:])
			}
		}
	}
}

// Items hang on what is there, also where a program may not be.
func TestP7_1ItemsOfWhatMayNotBe(t *testing.T) {
	if l := resolve.Items(api.Program{}); len(l) != 0 {
		t.Errorf("items of nothing: %v", l)
	}
	strange := api.Stmt{Kind: 99, Then: []api.Stmt{drop()}, Else: []api.Stmt{{}}}
	wantItems(t, api.Program{
		Headers: make([]api.Header, 1), Metas: make([]api.Field, 1), States: []api.State{{Keys: make([]api.Expr, 2)}},
		Actions: make([]api.Action, 1), Tables: make([]api.Table, 1), Control: []api.Stmt{strange}, Emit: make([]string, 1),
	}, []api.Item{
		item(api.ItHeader, 0, 0), item(api.ItMeta, 0, 0), item(api.ItState, 0, 0), item(api.ItNext, 0, 0), item(api.ItAction, 0, 0),
		item(api.ItTable, 0, 0), item(api.ItDefault, 0, 0),
		statement(-1, strange), statement(-1, strange.Then[0]), statement(-1, strange.Else[0]),
		item(api.ItEmit, 0, 0),
	})
	const deep = 300
	var l []api.Stmt
	for range deep {
		l = []api.Stmt{when(port(), l, l[:0])}
	}
	items := resolve.Items(api.Program{Control: l})
	for i, x := range items {
		if x.Kind != api.ItStmt || x.A != -1 || len(x.S.Then) != min(deep-1-i, 1) {
			t.Errorf("item %d of deep ones: %d %d", i, x.Kind, x.A)
		}
	}
	if len(items) != deep {
		t.Errorf("%d items, %d deep", len(items), deep)
	}
}

// What is told is in memory of its own: no list is one of the program, or of another item.
func TestP7_1ItemsAreAnew(t *testing.T) {
	p := wholeTree(t)
	for i := range resolve.Items(p) {
		l := resolve.Items(p)
		wiped(reflect.ValueOf(&l[i].S).Elem())
		if !reflect.DeepEqual(p, wholeTree(t)) {
			t.Fatalf("item %d has lists of the program", i)
		}
		other := resolve.Items(p)
		l[i] = other[i]
		if !reflect.DeepEqual(l, other) {
			t.Fatalf("item %d has lists of another one", i)
		}
	}
	l := resolve.Items(p)
	wiped(reflect.ValueOf(&p).Elem())
	if !reflect.DeepEqual(l, resolve.Items(wholeTree(t))) {
		t.Error("items change with the program")
	}
}
