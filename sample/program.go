package sample

import (
	"quillon/api"
	"quillon/num"
)

// Least is the least program that may be.
func Least() api.Program {
	return api.Program{States: []api.State{{Name: "s", To: "accept"}}}
}

// LeastText is the text of Least.
const LeastText = `metadata {
}
parser {
  state s {
    transition accept;
  }
}
control {
}
deparser {
}
`

// Full is a program that has each kind of item, of expression, of set and of statement, made anew each time.
func Full() api.Program {
	return api.Program{
		Headers: []api.Header{
			{Name: "eth", Fields: []api.Field{{Name: "dst", W: 48}, {Name: "kind", W: 16}}},
			{Name: "ip", Fields: []api.Field{{Name: "ttl", W: 8}}},
		},
		Metas:   []api.Field{{Name: "seen", W: 1}, {Name: "wide", W: 128}},
		States:  fullStates(),
		Actions: fullActions(),
		Tables:  fullTables(),
		Control: fullControl(),
		Emit:    []string{"eth", "ip"},
	}
}

func fullStates() []api.State {
	return []api.State{
		{
			Name: "start", Takes: []string{"eth"},
			Keys: []api.Expr{Field("eth", "kind"), Slice(Of(api.ExCat, Field("eth", "dst"), Meta("wide")), 127, 0)},
			Cases: []api.Case{
				{Sets: []api.Set{{Kind: api.SetOne, V: api.Lit{N: num.Of(2048)}}, {Kind: api.SetMask, V: api.Lit{W: 8, N: num.Of(255)}, M: api.Lit{W: 128, N: num.Mask(128)}}}, To: "more"},
				{Sets: []api.Set{{Kind: api.SetAny}, {Kind: api.SetOne}}, To: "accept"},
				{Default: true, To: "reject"},
			},
		},
		{Name: "more", Takes: []string{"ip", "ip"}, To: "accept"},
		{Name: "last", To: "reject"},
		{Name: "_1", To: "more"},
	}
}

func fullActions() []api.Action {
	return []api.Action{
		{Name: "send", Params: []api.Field{{Name: "to", W: 9}, {Name: "by", W: 8}}, Body: []api.Stmt{
			{Kind: api.StSet, Head: "ip", Name: "ttl", E: Of(api.ExSub, Field("ip", "ttl"), Param("by"))},
			{Kind: api.StForward, E: Of(api.ExAdd, Param("to"), Of(api.ExXor, Port(), Lit(9, 511)))},
			{Kind: api.StInvalid, Head: "ip"},
		}},
		{Name: "no"},
	}
}

func fullTables() []api.Table {
	return []api.Table{
		{
			Name: "route",
			Keys: []api.Key{
				{E: Of(api.ExShr, Of(api.ExShl, Field("eth", "dst"), Lit(0, 127)), Lit(0, 0)), Kind: api.KeyPrefix},
				{E: Of(api.ExAnd, Of(api.ExOr, Of(api.ExNot, Port()), Of(api.ExNeg, Port())), Lit(0, 7)), Kind: api.KeyTernary},
			},
			Actions: []string{"send", "no"}, Default: api.Call{Name: "send", Args: []api.Lit{{W: 9, N: num.Of(1)}, {N: num.Of(3)}}},
		},
		{Name: "acl", Keys: []api.Key{{E: Port(), Kind: api.KeyExact}}, Actions: []string{"no"}, Default: api.Call{Name: "no"}},
	}
}

func fullControl() []api.Stmt {
	return []api.Stmt{
		{Kind: api.StSet, Name: "seen", E: Lit(1, 1)},
		If(Of(api.ExBoth, Of(api.ExBang, Valid("ip")), Of(api.ExAny, Of(api.ExLt, Port(), Lit(0, 3)), Of(api.ExGe, Port(), Lit(0, 5)))),
			[]api.Stmt{Drop(), {Kind: api.StApply, Name: "acl"}},
			[]api.Stmt{If(Of(api.ExEq, Of(api.ExNe, Port(), Port()), Of(api.ExLe, Port(), Of(api.ExGt, Port(), Port()))), []api.Stmt{{Kind: api.StValid, Head: "ip"}}, nil)}),
		{Kind: api.StApply, Name: "route"},
	}
}

// FullText is the text of Full.
const FullText = `header eth {
  bit<48> dst;
  bit<16> kind;
}
header ip {
  bit<8> ttl;
}
metadata {
  bit<1> seen;
  bit<128> wide;
}
parser {
  state start {
    extract(eth);
    transition select(eth.kind, (eth.dst ++ meta.wide)[127:0]) {
      2048, 8w255 &&& 128w340282366920938463463374607431768211455: more;
      _, 0: accept;
      default: reject;
    }
  }
  state more {
    extract(ip);
    extract(ip);
    transition accept;
  }
  state last {
    transition reject;
  }
  state _1 {
    transition more;
  }
}
action send(bit<9> to, bit<8> by) {
  ip.ttl = ip.ttl - by;
  forward(to + (port ^ 9w511));
  invalid ip;
}
action no() {
}
table route {
  key {
    (eth.dst << 127) >> 0: lpm;
    ((~port) | (-port)) & 7: ternary;
  }
  actions {
    send;
    no;
  }
  default send(9w1, 3);
}
table acl {
  key {
    port: exact;
  }
  actions {
    no;
  }
  default no();
}
control {
  meta.seen = 1w1;
  if ((!isValid(ip)) && ((port < 3) || (port >= 5))) {
    drop;
    apply acl;
  } else {
    if ((port != port) == (port <= (port > port))) {
      valid ip;
    }
  }
  apply route;
}
deparser {
  emit(eth);
  emit(ip);
}
`
