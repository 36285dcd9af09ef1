package ast_test

import (
	"math"
	"reflect"
	"testing"

	"quillon/api"
	"quillon/ast"
	"quillon/num"
)

func wantMay(t *testing.T, p api.Program, want bool, what string, n ...any) {
	t.Helper()
	if got := ast.May(p); got != want {
		t.Errorf("May of %s %v is %v", what, n, got)
	}
}

func wantItems(t *testing.T, p api.Program, want int) {
	t.Helper()
	if got := ast.Items(p); got != want {
		t.Errorf("Items(%.300v) = %d, want %d", p, got, want)
	}
}

// changed is the full program with a change.
func changed(change func(p *api.Program)) api.Program {
	p := full()
	change(&p)
	return p
}

// P4.1

func TestP4_1May(t *testing.T) {
	wantMay(t, full(), true, "the full program")
	wantMay(t, least(), true, "the least program")
	wantMay(t, api.Program{}, false, "nothing")
	wantMay(t, emptied(full()), true, "the full program with empty lists")
	wantMay(t, emptied(least()), true, "the least program with empty lists")
}

// emptied is a program with an empty list wherever there is none.
func emptied(p api.Program) api.Program {
	var down func(v reflect.Value)
	down = func(v reflect.Value) {
		switch v.Kind() {
		case reflect.Struct:
			for i := range v.NumField() {
				down(v.Field(i))
			}
		case reflect.Slice:
			if v.IsNil() {
				v.Set(reflect.MakeSlice(v.Type(), 0, 3))
			}
			for i := range v.Len() {
				down(v.Index(i))
			}
		}
	}
	down(reflect.ValueOf(&p).Elem())
	return p
}

func TestP4_1HowMany(t *testing.T) {
	aField := api.Field{Name: "x", W: 8}
	anAction := api.Action{Name: "no"}
	aCase := func(sets int) api.Case {
		return api.Case{Sets: times(api.Set{Kind: api.SetAny}, sets), To: "accept"}
	}
	for _, x := range []struct {
		what        string
		least, most int
		has         func(p *api.Program, n int)
	}{
		{"headers", 0, 8, func(p *api.Program, n int) { p.Headers = times(api.Header{Name: "h", Fields: []api.Field{aField}}, n) }},
		{"fields", 1, 16, func(p *api.Program, n int) { p.Headers[1].Fields = times(aField, n) }},
		{"metadata", 0, 16, func(p *api.Program, n int) { p.Metas = times(aField, n) }},
		{"states", 1, 16, func(p *api.Program, n int) { p.States = times(api.State{Name: "s", To: "s"}, n) }},
		{"takes", 0, 8, func(p *api.Program, n int) { p.States[1].Takes = times("h", n) }},
		{"takes of a select", 0, 8, func(p *api.Program, n int) { p.States[0].Takes = times("h", n) }},
		{"keys of a select", 1, 4, func(p *api.Program, n int) {
			p.States[0].Keys, p.States[0].Cases = times(port(), n), []api.Case{aCase(n)}
		}},
		{"keys of a select of a default alone", 1, 4, func(p *api.Program, n int) {
			p.States[0].Keys, p.States[0].Cases = times(port(), n), []api.Case{{Default: true, To: "accept"}}
		}},
		{"cases", 1, 16, func(p *api.Program, n int) { p.States[0].Cases = times(aCase(2), n) }},
		{"default cases", 1, 16, func(p *api.Program, n int) {
			p.States[0].Cases = times(api.Case{Default: true, To: "start"}, n)
		}},
		{"sets beside 2 keys", 2, 2, func(p *api.Program, n int) { p.States[0].Cases[1] = aCase(n) }},
		{"sets of a default", 0, 0, func(p *api.Program, n int) { p.States[0].Cases[2].Sets = aCase(n).Sets }},
		{"actions", 0, 16, func(p *api.Program, n int) { p.Actions = times(anAction, n) }},
		{"parameters", 0, 8, func(p *api.Program, n int) { p.Actions[1].Params = times(aField, n) }},
		{"tables", 0, 8, func(p *api.Program, n int) { p.Tables = times(full().Tables[0], n) }},
		{"keys of a table", 1, 4, func(p *api.Program, n int) {
			p.Tables[0].Keys = times(api.Key{E: port(), Kind: api.KeyPrefix}, n)
		}},
		{"actions of a table", 1, 16, func(p *api.Program, n int) { p.Tables[0].Actions = times("no", n) }},
		{"arguments of a default", 0, 8, func(p *api.Program, n int) { p.Tables[1].Default.Args = times(api.Lit{}, n) }},
		{"emits", 0, 8, func(p *api.Program, n int) { p.Emit = times("h", n) }},
		{"statements of the control", 0, 32, func(p *api.Program, n int) { p.Control = times(drop(), n) }},
		{"statements of a body", 0, 32, func(p *api.Program, n int) { p.Actions[0].Body = times(drop(), n) }},
		{"statements of Then", 0, 32, func(p *api.Program, n int) { p.Control[1].Then = times(drop(), n) }},
		{"statements of Else", 0, 32, func(p *api.Program, n int) { p.Control[1].Else = times(drop(), n) }},
		{"statements of Then in Else", 0, 32, func(p *api.Program, n int) { p.Control[1].Else[0].Then = times(drop(), n) }},
		{"statements of Else in Else", 0, 32, func(p *api.Program, n int) { p.Control[1].Else[0].Else = times(drop(), n) }},
		{"statements of Then in a body", 0, 32, func(p *api.Program, n int) {
			p.Actions[1].Body = []api.Stmt{when(truth(), times(drop(), n), nil)}
		}},
		{"blocks in Then", 0, 8, func(p *api.Program, n int) { p.Control = blocks(n, false) }},
		{"blocks in Else", 0, 8, func(p *api.Program, n int) { p.Control = blocks(n, true) }},
		{"blocks in Then of a body", 0, 8, func(p *api.Program, n int) { p.Actions[0].Body = blocks(n, false) }},
		{"blocks in Else of a body", 0, 8, func(p *api.Program, n int) { p.Actions[0].Body = blocks(n, true) }},
		{"a header's field's bits", 1, 128, func(p *api.Program, n int) { p.Headers[0].Fields[1].W = n }},
		{"metadata's bits", 1, 128, func(p *api.Program, n int) { p.Metas[1].W = n }},
		{"a parameter's bits", 1, 128, func(p *api.Program, n int) { p.Actions[0].Params[1].W = n }},
	} {
		for n := range 2*x.most + 3 {
			p := full()
			x.has(&p, n)
			wantMay(t, p, x.least <= n && n <= x.most, x.what, n)
		}
	}
}

// blocks are blocks in one another, the innermost one with a statement.
func blocks(n int, inElse bool) []api.Stmt {
	if n == 0 {
		return nil
	}
	l := []api.Stmt{drop()}
	for range n - 1 {
		if inElse {
			l = []api.Stmt{drop(), when(truth(), nil, l)}
		} else {
			l = []api.Stmt{when(truth(), l, []api.Stmt{drop()}), drop()}
		}
	}
	return l
}

// An empty block is none, so that it is not one that is too deep.
func TestP4_1EmptyBlocks(t *testing.T) {
	l := []api.Stmt{when(truth(), nil, []api.Stmt{})}
	for depth := 1; depth <= 10; depth++ {
		wantMay(t, changed(func(p *api.Program) { p.Control = l }), depth <= 8, "an empty if in blocks", depth)
		wantMay(t, changed(func(p *api.Program) { p.Actions[0].Body = l }), depth <= 8, "an empty if in a body's blocks", depth)
		l = []api.Stmt{when(truth(), l, nil)}
	}
}

func TestP4_1WidthsThatAreNone(t *testing.T) {
	for _, w := range []int{-1, -8, 0, 129, 256, 257, 1<<32 + 8, math.MaxInt, math.MinInt} {
		eachChanged(func(p api.Program, i int, old api.Field) {
			wantMay(t, p, false, "field", i, w)
		}, func(f api.Field) api.Field {
			f.W = w
			return f
		})
	}
}

// Each text of a program is a name that it has, or refers to.
func TestP4_1Names(t *testing.T) {
	for _, s := range noNames() {
		eachChanged(func(p api.Program, i int, old string) {
			wantMay(t, p, false, "text", i, old, s)
		}, func(string) string { return s })
	}
	// What has a name may have another one; what has none may have none, but for a header of metadata that is set.
	for _, s := range []string{"a", "_a", "__", "Z9", long(16), "prio", "where"} {
		metas := 0
		eachChanged(func(p api.Program, i int, old string) {
			if old == "" && ast.May(p) {
				metas++
			} else {
				wantMay(t, p, old != "", "text", i, old, s)
			}
		}, func(string) string { return s })
		if metas != 1 {
			t.Errorf("%d texts that may not be are %s", metas, s)
		}
	}
	for _, s := range []string{"accept", "reject"} {
		targets := map[string]int{}
		eachChanged(func(p api.Program, i int, old string) {
			if ast.May(p) {
				targets[old]++
			}
		}, func(string) string { return s })
		// The six targets of the full program.
		if !reflect.DeepEqual(targets, map[string]int{"more": 2, "accept": 2, "reject": 2}) {
			t.Errorf("%s may be in place of %v", s, targets)
		}
	}
	eachChanged(func(p api.Program, i int, old string) {
		// Only that statement's header may lack.
		headOfSet := old == "ip" && p.Actions[0].Body[0].Head == ""
		wantMay(t, p, old == "" || headOfSet, "no text", i, old)
	}, func(string) string { return "" })
}

func TestP4_1NamesOfEach(t *testing.T) {
	for what, at := range map[string]func(p *api.Program) *string{
		"header":            func(p *api.Program) *string { return &p.Headers[1].Name },
		"field":             func(p *api.Program) *string { return &p.Headers[1].Fields[0].Name },
		"metadata":          func(p *api.Program) *string { return &p.Metas[1].Name },
		"state":             func(p *api.Program) *string { return &p.States[3].Name },
		"take":              func(p *api.Program) *string { return &p.States[1].Takes[1] },
		"expression":        func(p *api.Program) *string { return &p.States[0].Keys[0].Head },
		"action":            func(p *api.Program) *string { return &p.Actions[1].Name },
		"parameter":         func(p *api.Program) *string { return &p.Actions[0].Params[1].Name },
		"header of set":     func(p *api.Program) *string { return &p.Actions[0].Body[0].Head },
		"field of set":      func(p *api.Program) *string { return &p.Actions[0].Body[0].Name },
		"header of invalid": func(p *api.Program) *string { return &p.Actions[0].Body[2].Head },
		"metadata of set":   func(p *api.Program) *string { return &p.Control[0].Name },
		"applied table":     func(p *api.Program) *string { return &p.Control[1].Then[1].Name },
		"header of valid":   func(p *api.Program) *string { return &p.Control[1].Else[0].Then[0].Head },
		"table":             func(p *api.Program) *string { return &p.Tables[1].Name },
		"listed action":     func(p *api.Program) *string { return &p.Tables[0].Actions[1] },
		"default":           func(p *api.Program) *string { return &p.Tables[1].Default.Name },
		"emit":              func(p *api.Program) *string { return &p.Emit[1] },
	} {
		p := full()
		for s, want := range map[string]bool{"other": true, long(16): true, "accept": false, "reject": false, "": what == "header of set", "1": false, "if": false, long(17): false} {
			*at(&p) = s
			wantMay(t, p, want, what, s)
		}
	}
	for what, at := range map[string]func(p *api.Program) *string{
		"state's target": func(p *api.Program) *string { return &p.States[3].To },
		"case's target":  func(p *api.Program) *string { return &p.States[0].Cases[0].To },
		"default":        func(p *api.Program) *string { return &p.States[0].Cases[2].To },
	} {
		p := full()
		for s, want := range map[string]bool{"other": true, "accept": true, "reject": true, long(16): true, "": false, "default": false, "1": false, "Accept": true, "accept ": false, long(17): false} {
			*at(&p) = s
			wantMay(t, p, want, what, s)
		}
	}
	// Names that are there twice, or mean nothing, are not looked at here.
	wantMay(t, changed(func(p *api.Program) {
		for _, s := range parts[string](p) {
			if *s != "" {
				*s = "x"
			}
		}
	}), true, "one name for all")
}

func TestP4_1Transitions(t *testing.T) {
	keys := []api.Expr{port()}
	cases := []api.Case{{Sets: []api.Set{{Kind: api.SetAny}}, To: "accept"}}
	def := []api.Case{{Default: true, To: "s"}}
	for i, x := range []struct {
		s    api.State
		want bool
	}{
		{api.State{To: "accept"}, true},
		{api.State{To: "accept", Keys: []api.Expr{}, Cases: []api.Case{}}, true},
		{api.State{Keys: keys, Cases: cases}, true},
		{api.State{Keys: keys, Cases: def}, true},
		{api.State{Keys: keys, Cases: append(def, cases...)}, true},
		{api.State{}, false},
		{api.State{Keys: keys}, false},
		{api.State{Cases: cases}, false},
		{api.State{Cases: def}, false},
		{api.State{To: "accept", Keys: keys}, false},
		{api.State{To: "accept", Cases: cases}, false},
		{api.State{To: "accept", Cases: def}, false},
		{api.State{To: "accept", Keys: keys, Cases: cases}, false},
		{api.State{To: "default", Keys: keys, Cases: cases}, false},
		{api.State{To: "1"}, false},
		{api.State{Keys: keys, Cases: []api.Case{{To: "s"}}}, false},
		{api.State{Keys: keys, Cases: []api.Case{{Sets: cases[0].Sets}}}, false},
		{api.State{Keys: keys, Cases: []api.Case{{Default: true}}}, false},
		{api.State{Keys: keys, Cases: []api.Case{{Default: true, Sets: cases[0].Sets, To: "s"}}}, false},
		{api.State{Keys: []api.Expr{{}}, Cases: cases}, false},
		{api.State{Keys: []api.Expr{param("x")}, Cases: cases}, true},
	} {
		x.s.Name = "s"
		wantMay(t, api.Program{States: []api.State{x.s}}, x.want, "state", i)
		p := full()
		p.States[2] = x.s
		wantMay(t, p, x.want, "third state", i)
	}
}

func TestP4_1Sets(t *testing.T) {
	lits := []api.Lit{{}, {N: num.Of(1)}, {W: 1}, {W: 8, N: num.Of(255)}, {N: num.Mask(128)}, {W: 128, N: num.Mask(128)}, {W: 8, N: num.Of(256)}, {W: 129}, {W: -1}}
	const good = 6
	for kind := range 256 {
		for i, v := range lits {
			for j, m := range lits {
				want := false
				switch uint8(kind) {
				case api.SetAny:
					want = i == 0 && j == 0
				case api.SetOne:
					want = i < good && j == 0
				case api.SetMask:
					want = i < good && j < good
				}
				p := full()
				p.States[0].Cases[1].Sets[1] = api.Set{Kind: uint8(kind), V: v, M: m}
				wantMay(t, p, want, "set", kind, v, m)
			}
		}
	}
}

func TestP4_1NumbersWithin(t *testing.T) {
	whole := full()
	for _, s := range parts[api.Lit](&whole) {
		if s.W > 0 && !ast.MayExpr(api.Expr{Op: api.ExLit, Lit: *s}) {
			t.Fatalf("%v", s)
		}
	}
	for _, l := range []api.Lit{{W: 129}, {W: -1}, {W: 1, N: num.Of(2)}, {W: 127, N: num.Mask(128)}} {
		eachChanged(func(p api.Program, i int, old api.Lit) {
			wantMay(t, p, false, "number", i, l)
		}, func(api.Lit) api.Lit { return l })
	}
}

// Wherever a program has an expression, it is one that may be; wherever it has none, none.
func TestP4_1ExpressionsWithin(t *testing.T) {
	for _, e := range []api.Expr{{Op: 27}, {Op: 255}, meta("if"), {Op: api.ExPort, Hi: 1}, of(api.ExBang, lit(129, 0)), chains(17)[0], of(api.ExNot)} {
		eachChanged(func(p api.Program, i int, old api.Expr) {
			wantMay(t, p, false, "expression", i, e)
		}, func(api.Expr) api.Expr { return e })
	}
	eachChanged(func(p api.Program, i int, old api.Expr) {
		wantMay(t, p, old.Op == 0, "no expression", i, old)
	}, func(api.Expr) api.Expr { return api.Expr{} })
	eachChanged(func(p api.Program, i int, old api.Expr) {
		wantMay(t, p, old.Op != 0, "a number in place of expression", i, old)
	}, func(api.Expr) api.Expr { return lit(0, 100) })
	for what, at := range map[string]func(p *api.Program) *api.Expr{
		"select":  func(p *api.Program) *api.Expr { return &p.States[0].Keys[1] },
		"set":     func(p *api.Program) *api.Expr { return &p.Control[0].E },
		"if":      func(p *api.Program) *api.Expr { return &p.Control[1].Else[0].E },
		"forward": func(p *api.Program) *api.Expr { return &p.Actions[0].Body[1].E },
		"key":     func(p *api.Program) *api.Expr { return &p.Tables[0].Keys[1].E },
	} {
		for depth := 1; depth <= 18; depth++ {
			for i, e := range chains(depth) {
				p := full()
				*at(&p) = e
				wantMay(t, p, depth <= 16, what, depth, i)
			}
		}
	}
}

func TestP4_1KindsOfKeys(t *testing.T) {
	for kind := range 256 {
		p := full()
		p.Tables[0].Keys[1].Kind = uint8(kind)
		wantMay(t, p, kind >= 1 && kind <= 3, "kind of key", kind)
	}
}

func TestP4_1Statements(t *testing.T) {
	then := []api.Stmt{drop()}
	// What each kind has of head, name, expression and blocks: 0 nothing, 1 something, 2 either.
	kinds := map[uint8][4]int{
		api.StSet: {2, 1, 1, 0}, api.StIf: {0, 0, 1, 2}, api.StApply: {0, 1, 0, 0}, api.StDrop: {}, api.StForward: {0, 0, 1, 0}, api.StValid: {1, 0, 0, 0}, api.StInvalid: {1, 0, 0, 0},
	}
	for kind := range 256 {
		has, is := kinds[uint8(kind)]
		for bits := range 32 {
			bit := func(i int) int { return bits >> i & 1 }
			s := api.Stmt{Kind: uint8(kind)}
			if bit(0) == 1 {
				s.Head = "h"
			}
			if bit(1) == 1 {
				s.Name = "x"
			}
			if bit(2) == 1 {
				s.E = port()
			}
			if bit(3) == 1 {
				s.Then = then
			}
			if bit(4) == 1 {
				s.Else = then
			}
			want := is
			for i, part := range []int{bit(0), bit(1), bit(2), bit(3) | bit(4)} {
				want = want && (has[i] == 2 || has[i] == part)
			}
			for what, p := range map[string]api.Program{
				"control":        changed(func(p *api.Program) { p.Control = []api.Stmt{drop(), s} }),
				"body":           changed(func(p *api.Program) { p.Actions[1].Body = []api.Stmt{s} }),
				"Then":           changed(func(p *api.Program) { p.Control[1].Then = []api.Stmt{s} }),
				"Else":           changed(func(p *api.Program) { p.Control[1].Else = []api.Stmt{drop(), drop(), s} }),
				"Then of a body": changed(func(p *api.Program) { p.Actions[0].Body[0] = when(truth(), []api.Stmt{s, drop()}, nil) }),
			} {
				wantMay(t, p, want, "statement", what, s)
			}
		}
	}
}

// What a statement lacks may not be there in part, either.
func TestP4_1NoExpression(t *testing.T) {
	for _, e := range []api.Expr{port(), {Lit: api.Lit{W: 1}}, {Lit: api.Lit{N: num.Of(1)}}, {Head: "a"}, {Name: "a"}, {Hi: 1}, {Lo: 1}, {Args: []api.Expr{{}}}, {Op: 255}} {
		for _, s := range []api.Stmt{drop(), {Kind: api.StApply, Name: "t"}, {Kind: api.StValid, Head: "h"}, {Kind: api.StInvalid, Head: "h"}} {
			wantMay(t, changed(func(p *api.Program) { p.Control = []api.Stmt{s} }), true, "statement", s)
			s.E = e
			wantMay(t, changed(func(p *api.Program) { p.Control = []api.Stmt{s} }), false, "statement", s)
		}
	}
}

// P4.2

func TestP4_2Items(t *testing.T) {
	wantItems(t, api.Program{}, 0)
	wantItems(t, least(), 2)
	// 2 headers and 3 fields; 2 metadata; 4 states, 3 takes, 4 transitions, 3 cases; 2 actions, 2 parameters, 3 statements; 2 tables, 3 keys, 3 actions, 2 defaults; 7 statements; 2 emits.
	wantItems(t, full(), 5+2+14+7+10+7+2)
	wantItems(t, emptied(full()), 47)
}

// Each thing that a program has more is one item more, or more of them.
func TestP4_2ItemsOfEach(t *testing.T) {
	nested := when(truth(), []api.Stmt{drop(), when(truth(), nil, []api.Stmt{drop(), drop()})}, []api.Stmt{drop()}) // 6 items
	for _, x := range []struct {
		what string
		more int
		has  func(p *api.Program)
	}{
		{"header", 1, func(p *api.Program) { p.Headers = append(p.Headers, api.Header{}) }},
		{"header of 3 fields", 4, func(p *api.Program) { p.Headers = append(p.Headers, api.Header{Fields: make([]api.Field, 3)}) }},
		{"metadata", 1, func(p *api.Program) { p.Metas = append(p.Metas, api.Field{}) }},
		{"state", 2, func(p *api.Program) { p.States = append(p.States, api.State{}) }},
		{"state of 3 takes", 5, func(p *api.Program) { p.States = append(p.States, api.State{Takes: make([]string, 3)}) }},
		{"state of 3 keys", 2, func(p *api.Program) { p.States = append(p.States, api.State{Keys: make([]api.Expr, 3)}) }},
		{"state of 3 cases", 5, func(p *api.Program) { p.States = append(p.States, api.State{Cases: make([]api.Case, 3)}) }},
		{"sets", 0, func(p *api.Program) { p.States[0].Cases[0].Sets = make([]api.Set, 7) }},
		{"action", 1, func(p *api.Program) { p.Actions = append(p.Actions, api.Action{}) }},
		{"action of 3 parameters", 4, func(p *api.Program) { p.Actions = append(p.Actions, api.Action{Params: make([]api.Field, 3)}) }},
		{"statements of a body", 6, func(p *api.Program) { p.Actions[1].Body = append(p.Actions[1].Body, nested) }},
		{"table", 2, func(p *api.Program) { p.Tables = append(p.Tables, api.Table{}) }},
		{"table of 3 keys", 5, func(p *api.Program) { p.Tables = append(p.Tables, api.Table{Keys: make([]api.Key, 3)}) }},
		{"table of 3 actions", 5, func(p *api.Program) { p.Tables = append(p.Tables, api.Table{Actions: make([]string, 3)}) }},
		{"arguments of a default", 0, func(p *api.Program) { p.Tables[0].Default.Args = make([]api.Lit, 9) }},
		{"statements of the control", 12, func(p *api.Program) { p.Control = append(p.Control, nested, nested) }},
		{"statements of Then", 6, func(p *api.Program) { p.Control[1].Then = append(p.Control[1].Then, nested) }},
		{"statements of Else", 6, func(p *api.Program) { p.Control[1].Else[0].Else = append(p.Control[1].Else[0].Else, nested) }},
		{"statements in what is no if", 6, func(p *api.Program) { p.Control[0].Then = []api.Stmt{nested} }},
		{"emit", 1, func(p *api.Program) { p.Emit = append(p.Emit, "") }},
	} {
		p := full()
		x.has(&p)
		if got := ast.Items(p); got != 47+x.more {
			t.Errorf("Items with one more %s = %d, want %d", x.what, got, 47+x.more)
		}
		p = api.Program{Headers: full().Headers, States: full().States, Actions: full().Actions, Tables: full().Tables, Control: full().Control}
		x.has(&p)
		if got, want := ast.Items(p), 47+x.more-len(full().Metas)-len(full().Emit); got != want {
			t.Errorf("Items without metadata and emits, with one more %s = %d, want %d", x.what, got, want)
		}
	}
	// No bound holds the count.
	wantItems(t, api.Program{Headers: make([]api.Header, 1000), Control: times(nested, 1000)}, 7000)
	deep := drop()
	for range 1<<16 - 1 {
		deep = when(api.Expr{}, []api.Stmt{deep}, nil)
	}
	wantItems(t, api.Program{Control: []api.Stmt{deep}}, 1<<16)
}

func wantSame(t *testing.T, a, b api.Program, want bool, what string, n ...any) {
	t.Helper()
	if ast.Same(a, b) != want || ast.Same(b, a) != want {
		t.Errorf("Same of %s %v is %v, and %v", what, n, ast.Same(a, b), ast.Same(b, a))
	}
}

func TestP4_2Same(t *testing.T) {
	wantSame(t, api.Program{}, api.Program{}, true, "nothing")
	wantSame(t, least(), least(), true, "the least program")
	wantSame(t, full(), full(), true, "the full program")
	wantSame(t, least(), full(), false, "the least and the full program")
	wantSame(t, least(), api.Program{}, false, "the least program and nothing")
	wantSame(t, full(), emptied(full()), true, "lists that are not there and empty ones")
	wantSame(t, api.Program{}, emptied(api.Program{}), true, "nothing and empty lists")
}

// Whatever is another one, the program is, whether it may be or not.
func TestP4_2NotSame(t *testing.T) {
	for _, n := range []uint64{1, 1 << 32, 1 << 63} {
		eachChanged(func(p api.Program, i int, old uint64) { wantSame(t, full(), p, false, "half a number", i) },
			func(x uint64) uint64 { return x ^ n })
	}
	eachChanged(func(p api.Program, i int, old uint8) { wantSame(t, full(), p, false, "kind", i) },
		func(x uint8) uint8 { return x + 1 })
	eachChanged(func(p api.Program, i int, old int) { wantSame(t, full(), p, false, "whole number", i) },
		func(x int) int { return x + 1 })
	eachChanged(func(p api.Program, i int, old bool) { wantSame(t, full(), p, false, "whether it is a default", i) },
		func(x bool) bool { return !x })
	eachChanged(func(p api.Program, i int, old string) { wantSame(t, full(), p, false, "text", i) },
		func(x string) string { return x + "x" })
	eachChanged(func(p api.Program, i int, old string) { wantSame(t, full(), p, old == "", "no text", i) },
		func(string) string { return "" })
}

func eachListChanged[T any](t *testing.T) {
	t.Helper()
	var none T
	eachChanged(func(p api.Program, i int, old []T) { wantSame(t, full(), p, false, "a longer list", old) },
		func(l []T) []T { return append(append([]T{}, l...), none) })
	eachChanged(func(p api.Program, i int, old []T) { wantSame(t, full(), p, len(old) == 0, "no list", old) },
		func([]T) []T { return nil })
	eachChanged(func(p api.Program, i int, old []T) {
		wantSame(t, full(), p, len(old) == 0, "a shorter list", old)
	}, func(l []T) []T { return l[:max(len(l)-1, 0)] })
	eachChanged(func(p api.Program, i int, old []T) {
		wantSame(t, full(), p, len(old) < 2 || reflect.DeepEqual(old[0], old[1]), "a list in another order", old)
	}, func(l []T) []T {
		turned := append([]T{}, l...)
		if len(l) > 1 {
			turned[0], turned[1] = l[1], l[0]
		}
		return turned
	})
}

func TestP4_2NotSameLists(t *testing.T) {
	eachListChanged[api.Header](t)
	eachListChanged[api.Field](t)
	eachListChanged[api.State](t)
	eachListChanged[string](t)
	eachListChanged[api.Expr](t)
	eachListChanged[api.Case](t)
	eachListChanged[api.Set](t)
	eachListChanged[api.Action](t)
	eachListChanged[api.Stmt](t)
	eachListChanged[api.Table](t)
	eachListChanged[api.Key](t)
	eachListChanged[api.Lit](t)
}

// An equality: each is the same as itself, and what two have with a third one they have with each other.
func TestP4_2SameIsAnEquality(t *testing.T) {
	all := []api.Program{{}, least(), full(), emptied(least()), emptied(full()), changed(func(p *api.Program) { p.Emit = nil }), changed(func(p *api.Program) { p.Emit = []string{} })}
	eachChanged(func(p api.Program, i int, old string) { all = append(all, p) }, func(x string) string { return "x" })
	for i, a := range all {
		if !ast.Same(a, a) {
			t.Errorf("program %d is not the same as itself", i)
		}
		for j, b := range all {
			if ast.Same(a, b) != ast.Same(b, a) {
				t.Errorf("Same of %d and %d hangs on the order", i, j)
			}
			if !ast.Same(a, b) {
				continue
			}
			for k, c := range all {
				if ast.Same(a, c) != ast.Same(b, c) {
					t.Errorf("%d and %d are the same, but not with %d", i, j, k)
				}
			}
		}
	}
}

func TestP4_2ProgramsStayAsTheyAre(t *testing.T) {
	p, q := full(), full()
	for range 2 {
		if !ast.May(p) || ast.Items(p) != 47 || !ast.Same(p, q) {
			t.Error("another answer")
		}
	}
	if !reflect.DeepEqual(p, full()) || !reflect.DeepEqual(q, full()) {
		t.Error("a program was changed")
	}
}
