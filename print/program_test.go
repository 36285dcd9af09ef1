package print_test

import (
	"reflect"
	"strconv"
	"strings"
	"testing"

	"quillon/api"
	"quillon/ast"
	"quillon/num"
	"quillon/print"
	"quillon/sample"
)

func wantProgram(t *testing.T, p api.Program, want string, what ...any) {
	t.Helper()
	if got := print.Program(p); got != want {
		t.Errorf("Program of %v is\n%.3000s\nwant\n%.3000s", what, got, want)
	}
}

// changed is the full program with a change.
func changed(change func(p *api.Program)) api.Program {
	p := sample.Full()
	change(&p)
	return p
}

func TestP5_2Texts(t *testing.T) {
	wantProgram(t, sample.Least(), sample.LeastText, "the least program")
	wantProgram(t, sample.Full(), sample.FullText, "the full program")
}

// A change of the full program, and what its text has in place of what stands there but once.
type change struct {
	change   func(p *api.Program)
	old, new string
}

func changesOfLists() []change {
	return []change{
		{func(p *api.Program) { p.Headers = nil }, "header eth {\n  bit<48> dst;\n  bit<16> kind;\n}\nheader ip {\n  bit<8> ttl;\n}\n", ""},
		{func(p *api.Program) { p.Headers = p.Headers[:1] }, "header ip {\n  bit<8> ttl;\n}\n", ""},
		{func(p *api.Program) { p.Headers[0].Fields = p.Headers[0].Fields[1:] }, "  bit<48> dst;\n", ""},
		{func(p *api.Program) { p.Metas = nil }, "  bit<1> seen;\n  bit<128> wide;\n", ""},
		{func(p *api.Program) { p.Metas = append(p.Metas, api.Field{Name: "m", W: 2}) }, "wide;\n}\n", "wide;\n  bit<2> m;\n}\n"},
		{func(p *api.Program) { p.States = p.States[:3] }, "  state _1 {\n    transition more;\n  }\n", ""},
		{func(p *api.Program) { p.States[0].Takes = nil }, "    extract(eth);\n", ""},
		{func(p *api.Program) { p.States[2].Takes = []string{"x", "y"} }, "  state last {\n", "  state last {\n    extract(x);\n    extract(y);\n"},
		{func(p *api.Program) { p.States[0].Cases = p.States[0].Cases[:2] }, "      default: reject;\n", ""},
		{func(p *api.Program) {
			p.States[0].Cases = append([]api.Case{{Default: true, To: "last"}}, p.States[0].Cases...)
		}, "[127:0]) {\n", "[127:0]) {\n      default: last;\n"},
		{func(p *api.Program) { p.Actions = nil }, "action send(bit<9> to, bit<8> by) {\n  ip.ttl = ip.ttl - by;\n  forward(to + (port ^ 9w511));\n  invalid ip;\n}\naction no() {\n}\n", ""},
		{func(p *api.Program) { p.Actions[0].Params = p.Actions[0].Params[:1] }, "(bit<9> to, bit<8> by)", "(bit<9> to)"},
		{func(p *api.Program) { p.Actions[0].Params = nil }, "(bit<9> to, bit<8> by)", "()"},
		{func(p *api.Program) {
			p.Actions[1].Params = []api.Field{{Name: "a", W: 1}, {Name: "b", W: 127}, {Name: "c", W: 128}}
		}, "no() {", "no(bit<1> a, bit<127> b, bit<128> c) {"},
		{func(p *api.Program) { p.Actions[1].Body = []api.Stmt{drop(), drop()} }, "no() {\n", "no() {\n  drop;\n  drop;\n"},
		{func(p *api.Program) { p.Tables = p.Tables[:1] }, "table acl {\n  key {\n    port: exact;\n  }\n  actions {\n    no;\n  }\n  default no();\n}\n", ""},
		{func(p *api.Program) { p.Tables[0].Keys = p.Tables[0].Keys[1:] }, "    (eth.dst << 127) >> 0: lpm;\n", ""},
		{func(p *api.Program) { p.Tables[0].Actions = p.Tables[0].Actions[1:] }, "    send;\n", ""},
		{func(p *api.Program) { p.Tables[0].Default.Args = nil }, "send(9w1, 3)", "send()"},
		{func(p *api.Program) { p.Tables[1].Default.Args = []api.Lit{{W: 2, N: num.Of(3)}} }, "default no()", "default no(2w3)"},
		{func(p *api.Program) { p.Tables[0].Default.Args = append(p.Tables[0].Default.Args, api.Lit{}) }, "send(9w1, 3)", "send(9w1, 3, 0)"},
		{func(p *api.Program) { p.Control = p.Control[1:] }, "  meta.seen = 1w1;\n", ""},
		{func(p *api.Program) { p.Control[1].Then = nil }, "    drop;\n    apply acl;\n", ""},
		{func(p *api.Program) { p.Control[1].Else[0].Then = nil }, "      valid ip;\n", ""},
		{func(p *api.Program) { p.Control[1].Else[0].Else = []api.Stmt{drop()} }, "valid ip;\n    }\n", "valid ip;\n    } else {\n      drop;\n    }\n"},
		{func(p *api.Program) {
			p.Control[1].Else[0].Then, p.Control[1].Else[0].Else = nil, []api.Stmt{drop()}
		}, "      valid ip;\n    }\n", "    } else {\n      drop;\n    }\n"},
		{func(p *api.Program) { p.Control[1].Else = []api.Stmt{drop()} }, "    if ((port != port) == (port <= (port > port))) {\n      valid ip;\n    }\n", "    drop;\n"},
		{func(p *api.Program) { p.Control[1].Else = nil }, "  } else {\n    if ((port != port) == (port <= (port > port))) {\n      valid ip;\n    }\n", ""},
		{func(p *api.Program) { p.Emit = nil }, "  emit(eth);\n  emit(ip);\n", ""},
		{func(p *api.Program) { p.Emit = []string{"ip", "eth", "ip"} }, "  emit(eth);\n  emit(ip);\n", "  emit(ip);\n  emit(eth);\n  emit(ip);\n"},
	}
}

func changesOfParts() []change {
	return []change{
		{func(p *api.Program) { p.Headers[0].Name = "x" }, "header eth", "header x"},
		{func(p *api.Program) { p.Headers[1].Fields[0] = api.Field{Name: "x", W: 127} }, "bit<8> ttl;", "bit<127> x;"},
		{func(p *api.Program) { p.Metas[0] = api.Field{Name: "x", W: 10} }, "bit<1> seen;", "bit<10> x;"},
		{func(p *api.Program) { p.States[0].Name = "x" }, "state start", "state x"},
		{func(p *api.Program) { p.States[0].Takes[0] = "x" }, "extract(eth)", "extract(x)"},
		{func(p *api.Program) { p.States[0].Keys[0] = valid("x") }, "select(eth.kind,", "select(isValid(x),"},
		{func(p *api.Program) { p.States[0].Keys[1] = param("x") }, "(eth.dst ++ meta.wide)[127:0])", "x)"},
		{func(p *api.Program) { p.States[0].Keys[0] = of(api.ExAdd, port(), port()) }, "select(eth.kind,", "select(port + port,"},
		{func(p *api.Program) { p.States[0].Cases[0].To = "x" }, "5: more", "5: x"},
		{func(p *api.Program) { p.States[0].Cases[2].To = "accept" }, "default: reject", "default: accept"},
		{func(p *api.Program) { p.States[0].Cases[1].Sets[1] = api.Set{Kind: api.SetAny} }, "_, 0:", "_, _:"},
		{func(p *api.Program) { p.States[0].Cases[1].Sets[0] = api.Set{Kind: api.SetMask} }, "_, 0:", "0 &&& 0, 0:"},
		{func(p *api.Program) {
			p.States[0].Cases[0].Sets[0] = api.Set{Kind: api.SetOne, V: api.Lit{W: 12, N: num.Of(2048)}}
		}, "2048,", "12w2048,"},
		{func(p *api.Program) { p.States[2].To = "x" }, "transition reject;", "transition x;"},
		{func(p *api.Program) {
			p.States[2] = api.State{Name: "last", Keys: []api.Expr{port()}, Cases: []api.Case{{Sets: []api.Set{{Kind: api.SetAny}}, To: "reject"}}}
		}, "    transition reject;\n", "    transition select(port) {\n      _: reject;\n    }\n"},
		{func(p *api.Program) { p.Actions[1].Name = "x" }, "action no", "action x"},
		{func(p *api.Program) { p.Actions[0].Params[1] = api.Field{Name: "x", W: 99} }, "bit<8> by", "bit<99> x"},
		{func(p *api.Program) { p.Actions[0].Body[0].Head = "x" }, "  ip.ttl =", "  x.ttl ="},
		{func(p *api.Program) { p.Actions[0].Body[0].Head = "" }, "  ip.ttl =", "  meta.ttl ="},
		{func(p *api.Program) { p.Actions[0].Body[0].Name = "x" }, "  ip.ttl =", "  ip.x ="},
		{func(p *api.Program) { p.Actions[0].Body[0].E = port() }, "= ip.ttl - by;", "= port;"},
		{func(p *api.Program) { p.Actions[0].Body[1].E = slice(port(), 8, 0) }, "(to + (port ^ 9w511))", "(port[8:0])"},
		{func(p *api.Program) { p.Actions[0].Body[2].Head = "x" }, "invalid ip;", "invalid x;"},
		{func(p *api.Program) { p.Actions[0].Body[2].Kind = api.StValid }, "  invalid ip;", "  valid ip;"},
		{func(p *api.Program) { p.Tables[0].Name = "x" }, "table route", "table x"},
		{func(p *api.Program) { p.Tables[0].Keys[0].Kind = api.KeyExact }, "0: lpm;", "0: exact;"},
		{func(p *api.Program) { p.Tables[1].Keys[0] = api.Key{E: of(api.ExNeg, port()), Kind: api.KeyTernary} }, "port: exact;", "-port: ternary;"},
		{func(p *api.Program) { p.Tables[1].Keys[0].Kind = api.KeyPrefix }, "port: exact;", "port: lpm;"},
		{func(p *api.Program) { p.Tables[0].Actions[0] = "x" }, "    send;", "    x;"},
		{func(p *api.Program) { p.Tables[0].Default.Name = "x" }, "default send", "default x"},
		{func(p *api.Program) { p.Tables[0].Default.Args[1] = api.Lit{W: 3, N: num.Of(7)} }, "9w1, 3)", "9w1, 3w7)"},
		{func(p *api.Program) { p.Control[0].Name = "x" }, "meta.seen =", "meta.x ="},
		{func(p *api.Program) { p.Control[0].Head = "x" }, "meta.seen =", "x.seen ="},
		{func(p *api.Program) { p.Control[1].E = port() }, "if ((!isValid(ip)) && ((port < 3) || (port >= 5))) {", "if (port) {"},
		{func(p *api.Program) { p.Control[1].Then[1].Name = "x" }, "apply acl;", "apply x;"},
		{func(p *api.Program) { p.Control[1].Then[0] = api.Stmt{Kind: api.StForward, E: lit(0, 5)} }, "    drop;\n", "    forward(5);\n"},
		{func(p *api.Program) { p.Control[1].Else[0].Then[0].Head = "x" }, "      valid ip;", "      valid x;"},
		{func(p *api.Program) { p.Control[2] = drop() }, "  apply route;", "  drop;"},
		{func(p *api.Program) { p.Emit[1] = "x" }, "emit(ip)", "emit(x)"},
	}
}

func changes() []change { return append(changesOfLists(), changesOfParts()...) }

func TestP5_2EachPart(t *testing.T) {
	for i, x := range changes() {
		if n := strings.Count(sample.FullText, x.old); n != 1 {
			t.Fatalf("change %d: %q stands there %d times", i, x.old, n)
		}
		wantProgram(t, changed(x.change), strings.Replace(sample.FullText, x.old, x.new, 1), "change", i)
	}
}

// Two programs that may be have the same text just if they are the same.
func TestP5_2SameText(t *testing.T) {
	all := []api.Program{sample.Least(), sample.Full()}
	for _, x := range changes() {
		all = append(all, changed(x.change))
	}
	for i, a := range all {
		for j, b := range all {
			if got := print.Program(a) == print.Program(b); got != ast.Same(a, b) {
				t.Errorf("whether %d and %d have the same text: %v", i, j, got)
			}
		}
	}
}

// A list that is not there and an empty one are one.
func TestP5_2EmptyLists(t *testing.T) {
	p := api.Program{
		Headers: []api.Header{}, Metas: []api.Field{}, Actions: []api.Action{}, Tables: []api.Table{}, Control: []api.Stmt{}, Emit: []string{},
		States: []api.State{{Name: "s", Takes: []string{}, To: "accept", Keys: []api.Expr{}, Cases: []api.Case{}}},
	}
	wantProgram(t, p, sample.LeastText, "empty lists")
	wantProgram(t, changed(func(p *api.Program) {
		p.Actions[1].Params, p.Actions[1].Body, p.Tables[1].Default.Args = []api.Field{}, []api.Stmt{}, []api.Lit{}
		p.Control[0].Then, p.Control[1].Else[0].Else, p.States[0].Cases[2].Sets = []api.Stmt{}, []api.Stmt{}, []api.Set{}
	}), sample.FullText, "empty lists within")
}

// nested is so many blocks in one another, the outermost one a control's or a body's, and their lines.
func nested(n int) ([]api.Stmt, []string) {
	l, lines := []api.Stmt{drop()}, []string{"drop;"}
	for range n - 1 {
		l = []api.Stmt{when(port(), l, l), drop()}
		within := []string{"if (port) {"}
		for range 2 {
			for _, s := range lines {
				within = append(within, "  "+s)
			}
			within = append(within, "} else {")
		}
		within[len(within)-1] = "}"
		lines = append(within, "drop;")
	}
	return l, lines
}

func TestP5_2Blocks(t *testing.T) {
	for n := 1; n <= 9; n++ {
		l, lines := nested(n)
		in := "  " + strings.Join(lines, "\n  ") + "\n"
		control, body := sample.Least(), sample.Least()
		control.Control = l
		body.Actions = []api.Action{{Name: "a", Body: l}}
		inControl := strings.Replace(sample.LeastText, "control {\n", "control {\n"+in, 1)
		inBody := strings.Replace(sample.LeastText, "control", "action a() {\n"+in+"}\ncontrol", 1)
		if n > 8 {
			inControl, inBody = "", ""
		}
		wantProgram(t, control, inControl, n, "blocks in the control")
		wantProgram(t, body, inBody, n, "blocks in a body")
	}
	// Empty blocks are none, so that the innermost if may stand in the eighth one.
	l := []api.Stmt{when(port(), nil, nil)}
	for range 7 {
		l = []api.Stmt{when(port(), nil, l)}
	}
	p := sample.Least()
	p.Control = l
	var in, out string
	for n := 1; n <= 7; n++ {
		blanks := strings.Repeat("  ", n)
		in += blanks + "if (port) {\n" + blanks + "} else {\n"
		out = blanks + "}\n" + out
	}
	blanks := strings.Repeat("  ", 8)
	in += blanks + "if (port) {\n" + blanks + "}\n"
	wantProgram(t, p, strings.Replace(sample.LeastText, "control {\n", "control {\n"+in+out, 1), "empty blocks")
}

func TestP5_2HowMany(t *testing.T) {
	for _, x := range []struct {
		what string
		most int
		has  func(p *api.Program, n int)
		line string
	}{
		{"headers", 8, func(p *api.Program, n int) {
			p.Headers = make([]api.Header, n)
			for i := range p.Headers {
				p.Headers[i] = api.Header{Name: "h" + strconv.Itoa(i), Fields: []api.Field{{Name: "f", W: 1}}}
			}
		}, "header h# {\n  bit<1> f;\n}\n"},
		{"fields", 16, func(p *api.Program, n int) {
			p.Headers = []api.Header{{Name: "h", Fields: make([]api.Field, n)}}
			for i := range n {
				p.Headers[0].Fields[i] = api.Field{Name: "f" + strconv.Itoa(i), W: 1}
			}
		}, "  bit<1> f#;\n"},
		{"statements", 32, func(p *api.Program, n int) {
			p.Control = make([]api.Stmt, n)
			for i := range n {
				p.Control[i] = api.Stmt{Kind: api.StApply, Name: "t" + strconv.Itoa(i)}
			}
		}, "  apply t#;\n"},
		{"states", 16, func(p *api.Program, n int) {
			p.States = make([]api.State, n)
			for i := range n {
				p.States[i] = api.State{Name: "s" + strconv.Itoa(i), To: "s" + strconv.Itoa(i)}
			}
		}, "  state s# {\n    transition s#;\n  }\n"},
		{"cases", 16, func(p *api.Program, n int) {
			p.States[0] = api.State{Name: "s", Keys: []api.Expr{port()}, Cases: make([]api.Case, n)}
			for i := range n {
				p.States[0].Cases[i] = api.Case{Sets: []api.Set{{Kind: api.SetOne, V: lit(0, uint64(i)).Lit}}, To: "s"}
			}
		}, "      #: s;\n"},
		{"actions of a table", 16, func(p *api.Program, n int) {
			p.Tables = []api.Table{{Name: "t", Keys: []api.Key{{E: port(), Kind: api.KeyExact}}, Actions: make([]string, n), Default: api.Call{Name: "a"}}}
			for i := range n {
				p.Tables[0].Actions[i] = "a" + strconv.Itoa(i)
			}
		}, "    a#;\n"},
		{"emits", 8, func(p *api.Program, n int) {
			p.Emit = make([]string, n)
			for i := range n {
				p.Emit[i] = "h" + strconv.Itoa(i)
			}
		}, "  emit(h#);\n"},
	} {
		for n := 1; n <= x.most+2; n++ {
			p := sample.Least()
			x.has(&p, n)
			var lines string
			for i := range n {
				lines += strings.ReplaceAll(x.line, "#", strconv.Itoa(i))
			}
			got := print.Program(p)
			if n > x.most && got != "" || n <= x.most && strings.Count(got, lines) != 1 {
				t.Errorf("Program with %d %s is\n%s", n, x.what, got)
			}
		}
	}
}

// All text of a program is in lines, each one ended.
func TestP5_2Lines(t *testing.T) {
	for i, x := range changes() {
		s := print.Program(changed(x.change))
		if !strings.HasSuffix(s, "}\n") || strings.Contains(s, "\n\n") || strings.Contains(s, " \n") || strings.ContainsAny(s, "\t\r") {
			t.Errorf("Program of change %d is\n%s", i, s)
		}
	}
}

func TestP5_2Nothing(t *testing.T) {
	wantProgram(t, api.Program{}, "", "nothing")
	for i, change := range []func(p *api.Program){
		func(p *api.Program) { p.Headers[1].Name = "if" },
		func(p *api.Program) { p.Headers[0].Fields = nil },
		func(p *api.Program) { p.Headers[0].Fields[1].W = 129 },
		func(p *api.Program) { p.Metas[0].W = 0 },
		func(p *api.Program) { p.Metas[0].Name = "" },
		func(p *api.Program) { p.States = nil },
		func(p *api.Program) { p.States[1].To = "" },
		func(p *api.Program) { p.States[0].To = "more" },
		func(p *api.Program) { p.States[1].Takes[0] = "8w1" },
		func(p *api.Program) { p.States[0].Cases[0].Sets[1].M.W = 200 },
		func(p *api.Program) { p.States[0].Cases[1].Sets[0].Kind = 0 },
		func(p *api.Program) { p.States[0].Cases[1].Sets[0].V.W = 1 },
		func(p *api.Program) { p.States[0].Cases[1].Sets = p.States[0].Cases[1].Sets[:1] },
		func(p *api.Program) { p.States[0].Cases[2].To = "default" },
		func(p *api.Program) { p.Actions[0].Params[0].Name = "a b" },
		func(p *api.Program) { p.Actions[0].Body[2].Head = "" },
		func(p *api.Program) { p.Actions[0].Body[2].Kind = 8 },
		func(p *api.Program) { p.Tables[0].Keys[0].Kind = 0 },
		func(p *api.Program) { p.Tables[0].Keys = nil },
		func(p *api.Program) { p.Tables[0].Actions = nil },
		func(p *api.Program) { p.Tables[0].Default.Name = "" },
		func(p *api.Program) { p.Tables[0].Default.Args[0].N = num.Of(512) },
		func(p *api.Program) { p.Control[0].Then = []api.Stmt{drop()} },
		func(p *api.Program) { p.Control[1].Else[0].Then[0].Name = "x" },
		func(p *api.Program) { p.Emit[0] = "" },
	} {
		wantProgram(t, changed(change), "", "wrong", i)
	}
	for i, e := range noExprs() {
		for _, at := range []func(p *api.Program) *api.Expr{
			func(p *api.Program) *api.Expr { return &p.States[0].Keys[1] },
			func(p *api.Program) *api.Expr { return &p.Actions[0].Body[1].E },
			func(p *api.Program) *api.Expr { return &p.Tables[0].Keys[1].E },
			func(p *api.Program) *api.Expr { return &p.Control[1].Else[0].E },
		} {
			wantProgram(t, changed(func(p *api.Program) { *at(p) = e }), "", "no expression", i)
		}
	}
	block := make([]api.Stmt, api.MaxStmts)
	for i := range block {
		block[i] = when(port(), block, block)
	}
	wantProgram(t, changed(func(p *api.Program) { p.Control = block }), "", "a block in itself")
}

func TestP5_2ProgramsStayAsTheyAre(t *testing.T) {
	p := sample.Full()
	wantProgram(t, p, sample.FullText, "the full program")
	wantProgram(t, p, sample.FullText, "the full program once more")
	if !reflect.DeepEqual(p, sample.Full()) {
		t.Error("the program was changed")
	}
}
