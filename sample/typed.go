package sample

import (
	"quillon/api"
	"quillon/num"
)

// Typed is the text of a program with nothing wrong. A name has other widths where it is of another kind, or in another header or action: f, h, w and x.
const Typed = `
header h { bit<8> f; bit<3> g; bit<5> x; }
header i { bit<16> f; bit<128> w; }
metadata { bit<4> m; bit<9> h; bit<1> o; bit<127> w; bit<2> f; }
parser {
	state s {
		extract(h);
		transition select(h.f, meta.m ++ (port + 1)) {
			1, _: t;
			_, 13w2 &&& 3: accept;
			8w255 &&& 15, 8191: t;
			default: reject;
			0 &&& 8w0, 0 &&& 13w8191: accept;
		}
	}
	state t {
		extract(i);
		transition select(i.w, ~h.g, i.f[3:3], port) {
			340282366920938463463374607431768211455, 3w7, _, 511: u;
			_, 7 &&& 7, 1w1, 9w5 &&& 0: u;
		}
	}
	state u { transition accept; }
}
action a(bit<9> x, bit<8> y) {
	forward(x + 1);
	h.g = y[2:0];
	if (!isValid(i)) { meta.h = x; drop; } else { invalid i; if (y == 3 && 9 != x) { h.f = y ^ 255; } }
}
action b(bit<1> x) { meta.m = x ++ 3w1; forward(x); i.w = -~5; }
action c() { }
table t { key { h.x: exact; ~meta.m: ternary; port >> 3: lpm; } actions { a; b; c; } default a(511, 2); }
table a { key { port - 1: lpm; } actions { c; b; } default b(1w1); }
control {
	apply t;
	if (h.g == 1 || meta.h >= 2) { apply a; valid h; } else { i.f = i.f - 5; if (port < 4) { } else { meta.o = i.w[127:127]; } }
	forward(meta.w);
	drop;
	meta.h = 511;
}
deparser { emit(i); emit(h); }
`

// A Maker makes expressions with nothing wrong, of Typed's names, by chance.
type Maker struct {
	Intn   func(n int) int // from 0 on, below n
	Action int             // whose parameters there are; -1: none
}

// Pick is one of some.
func Pick[T any](m Maker, l ...T) T { return l[m.Intn(len(l))] }

// Number goes to a width, which may, or may not be told.
func (m Maker) Number(w int) api.Lit {
	n := num.Cut(Pick(m, num.Of(0), num.Of(1), num.Mask(api.MaxWidth), num.Shl(num.Of(1), w-1, api.MaxWidth)), w)
	return api.Lit{W: Pick(m, 0, w), N: n}
}

// Bits goes to a width; it is at most one deeper than told.
func (m Maker) Bits(w, depth int) api.Expr {
	if depth == 0 || m.Intn(6) == 0 {
		return api.Expr{Op: api.ExLit, Lit: m.Number(w)}
	}
	switch m.Intn(5) {
	case 0:
		return Of(Pick(m, api.ExNot, api.ExNeg), m.Bits(w, depth-1))
	case 1:
		return Of(m.sign(), m.Own(w, depth-1), m.Bits(w, depth-1))
	case 2:
		return Of(m.sign(), m.Bits(w, depth-1), m.Own(w, depth-1))
	}
	return m.Own(w, depth-1)
}

func (m Maker) sign() uint8 { return Pick(m, api.ExAdd, api.ExSub, api.ExAnd, api.ExXor, api.ExOr) }

// Own is of a width of its own.
func (m Maker) Own(w, depth int) api.Expr {
	if depth <= 0 {
		return m.name(w)
	}
	switch m.Intn(4) {
	case 0:
		lo := m.Intn(api.MaxWidth + 1 - w)
		return Slice(m.Own(w+lo+m.Intn(api.MaxWidth+1-w-lo), depth-1), w+lo-1, lo)
	case 1:
		if w > 1 {
			v := 1 + m.Intn(w-1)
			return Of(api.ExCat, m.Own(v, depth-1), m.Own(w-v, depth-1))
		}
	case 2:
		return Of(Pick(m, api.ExShl, api.ExShr), m.Own(w, depth-1), Lit(0, uint64(m.Intn(api.MaxShift+1))))
	}
	return m.Own(w, depth-2)
}

// name is what has a width, or a number of that width, if nothing has it.
func (m Maker) name(w int) api.Expr {
	l := map[int][]api.Expr{
		1: {Meta("o")}, 2: {Meta("f")}, 3: {Field("h", "g")}, 4: {Meta("m")}, 5: {Field("h", "x")}, 8: {Field("h", "f")},
		9: {Meta("h"), Port()}, 16: {Field("i", "f")}, 127: {Meta("w")}, 128: {Field("i", "w")},
	}[w]
	switch {
	case m.Action == 0 && w == 9, m.Action == 1 && w == 1:
		l = append(l, Param("x"))
	case m.Action == 0 && w == 8:
		l = append(l, Param("y"))
	}
	if len(l) == 0 {
		return api.Expr{Op: api.ExLit, Lit: api.Lit{W: w, N: m.Number(w).N}}
	}
	return Pick(m, l...)
}

func (m Maker) Truth(depth int) api.Expr {
	w := Pick(m, 1, 8, 9, 128)
	switch {
	case depth == 0 || m.Intn(5) == 0:
		return Valid(Pick(m, "h", "i"))
	case m.Intn(2) == 0:
		return Of(api.ExEq+uint8(m.Intn(6)), m.Own(w, depth-1), m.Bits(w, depth-1))
	case m.Intn(3) == 0:
		return Of(api.ExBang, m.Truth(depth-1))
	}
	return Of(Pick(m, api.ExBoth, api.ExAny), m.Truth(depth-1), m.Truth(depth-1))
}
