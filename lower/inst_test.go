package lower_test

import (
	"strings"
	"testing"

	"quillon/api"
	"quillon/sample"
)

func wantInsts(t *testing.T, action int, rows []row) {
	t.Helper()
	for _, x := range rows {
		if got := toldInsts(insts(t, action, x.text)); got != x.told {
			t.Errorf("%s is\n%s\nwant\n%s", x.text, got, x.told)
		}
	}
}

func TestP10_1Statements(t *testing.T) {
	wantInsts(t, -1, []row{
		{"", ""},
		{"h.f = i.f[7:0];", "set[field16(1,0) slice8(7,0)]"}, {"h.g = 5;", "set(0,1)[const3=5]"}, {"i.w = -~5;", "set(1,1)[const128=5 not128 neg128]"}, {"h.x = h.x - 1;", "set(0,2)[field5(0,2) const5=1 sub5]"},
		{"meta.m = 4w3;", "meta[const4=3]"}, {"meta.h = port;", "meta(1,0)[port9]"}, {"meta.w = 0;", "meta(3,0)[const127]"}, {"meta.f = meta.o ++ 1w1;", "meta(4,0)[meta1(2,0) const1=1 cat2]"},
		{"apply t;", "apply"}, {"apply a;", "apply(1,0)"}, {"drop;", "drop"},
		{"valid h;", "valid(0,1)"}, {"valid i;", "valid(1,1)"}, {"invalid h;", "valid"}, {"invalid i;", "valid(1,0)"},
		{"drop; apply a; drop; valid i; meta.m = 1; drop;", "drop; apply(1,0); drop; valid(1,1); meta[const4=1]; drop"},
	})
	wantInsts(t, 0, []row{
		{"meta.h = x; h.f = y; h.g = y[2:0];", "meta(1,0)[param9]; set[param8(1,0)]; set(0,1)[param8(1,0) slice3(2,0)]"},
		{"forward(x + 1); drop; invalid i;", "forward[param9 const9=1 add9]; drop; valid(1,0)"},
		{"if (y == 3) { meta.h = x; }", "if[param8(1,0) const8=3 eq1]>2; meta(1,0)[param9]"},
	})
	// The same name is another parameter, or none, in another action.
	wantInsts(t, 1, []row{{"meta.o = x;", "meta(2,0)[param1]"}, {"", ""}})
}

// What is forwarded to has 9 bits: fewer ones are filled up with noughts above, of more the lowest 9 are left.
func TestP10_1Forward(t *testing.T) {
	wantInsts(t, 0, []row{
		{"forward(port);", "forward[port9]"}, {"forward(x);", "forward[param9]"}, {"forward(port + 511);", "forward[port9 const9=511 add9]"},
		{"forward(0);", "forward[const9]"}, {"forward(511);", "forward[const9=511]"}, {"forward(~-5);", "forward[const9=5 neg9 not9]"}, {"forward(9w511);", "forward[const9=511]"},
		{"forward(y);", "forward[const1 param8(1,0) cat9]"}, {"forward(h.g);", "forward[const6 field3(0,1) cat9]"}, {"forward(meta.o);", "forward[const8 meta1(2,0) cat9]"}, {"forward(1w1);", "forward[const8 const1=1 cat9]"}, {"forward(h.f + 1);", "forward[const1 field8 const8=1 add8 cat9]"},
		{"forward(10w1023);", "forward[const10=1023 slice9(8,0)]"}, {"forward(i.f);", "forward[field16(1,0) slice9(8,0)]"}, {"forward(i.w);", "forward[field128(1,1) slice9(8,0)]"}, {"forward(x ++ y);", "forward[param9 param8(1,0) cat17 slice9(8,0)]"},
		{"forward(i.f[8:0]);", "forward[field16(1,0) slice9(8,0)]"}, {"forward(i.f[9:0]);", "forward[field16(1,0) slice10(9,0) slice9(8,0)]"}, {"forward(i.f[9:1]);", "forward[field16(1,0) slice9(9,1)]"}, {"forward(i.f[9:2]);", "forward[const1 field16(1,0) slice8(9,2) cat9]"},
	})
}

func TestP10_1If(t *testing.T) {
	const h, i = "valid1", "valid1(1,0)"
	wantInsts(t, -1, []row{
		{"if (isValid(h)) { drop; }", "if[" + h + "]>2; drop"},
		{"if (isValid(h)) { }", "if[" + h + "]>1"},
		{"if (isValid(h)) { } else { }", "if[" + h + "]>1"},
		{"if (isValid(h)) { drop; } else { }", "if[" + h + "]>2; drop"},
		{"if (isValid(h)) { drop; } else { apply t; }", "if[" + h + "]>3; drop; jump>4; apply"},
		{"if (isValid(h)) { } else { apply t; }", "if[" + h + "]>2; jump>3; apply"},
		{"drop; if (isValid(h)) { drop; drop; } else { apply t; apply a; } drop;", "drop; if[" + h + "]>5; drop; drop; jump>7; apply; apply(1,0); drop"},
		{"if (isValid(h)) { if (isValid(i)) { drop; } } drop;", "if[" + h + "]>3; if[" + i + "]>3; drop; drop"},
		{"if (isValid(h)) { if (isValid(i)) { drop; } else { apply t; } } else { apply a; }", "if[" + h + "]>6; if[" + i + "]>4; drop; jump>5; apply; jump>7; apply(1,0)"},
		{"if (isValid(h)) { drop; } else { if (isValid(i)) { apply t; } else { apply a; } } valid h;", "if[" + h + "]>3; drop; jump>7; if[" + i + "]>6; apply; jump>7; apply(1,0); valid(0,1)"},
		{"if (isValid(h)) { } if (isValid(i)) { }", "if[" + h + "]>1; if[" + i + "]>2"},
	})
}

// An empty Then, or Else, is none.
func TestP10_1EmptyBlocks(t *testing.T) {
	none, empty, drop := []api.Stmt(nil), []api.Stmt{}, []api.Stmt{sample.Drop()}
	for _, x := range []struct {
		then, other []api.Stmt
		told        string
	}{
		{none, none, "if[valid1]>1"}, {none, empty, "if[valid1]>1"}, {empty, none, "if[valid1]>1"}, {empty, empty, "if[valid1]>1"}, {drop, empty, "if[valid1]>2; drop"}, {drop, none, "if[valid1]>2; drop"},
		{empty, drop, "if[valid1]>2; jump>3; drop"}, {none, drop, "if[valid1]>2; jump>3; drop"},
	} {
		p := typed(t)
		p.Control = []api.Stmt{sample.If(sample.Valid("h"), x.then, x.other)}
		if got := toldInsts(lowered(t, p).Control); got != x.told {
			t.Errorf("of %d and %d statements %s, want %s", len(x.then), len(x.other), got, x.told)
		}
	}
	p := typed(t)
	p.Control, p.Actions[0].Body = empty, empty
	if l := lowered(t, p); len(l.Control) != 0 || len(l.Acts[0].Body) != 0 {
		t.Error(toldProg(l))
	}
}

// Conditions of parts A, B, C and D, ahead of one drop.
func TestP10_1Conditions(t *testing.T) {
	parts := strings.NewReplacer("A", "isValid(h)", "B", "port == 1", "C", "meta.o < 1", "D", "isValid(i)")
	codes := strings.NewReplacer("A", "valid1", "B", "port9 const9=1 eq1", "C", "meta1(2,0) const1=1 lt1", "D", "valid1(1,0)", "!", " not1")
	var rows []row
	for _, x := range []row{
		{"A", "if[A]>2; drop"},
		{"!A", "if[A!]>2; drop"},
		{"!!A", "if[A]>2; drop"},
		{"!!!A", "if[A!]>2; drop"},
		{"A && D", "if[A]>3; if[D]>3; drop"},
		{"A || D", "if[A!]>2; if[D]>3; drop"},
		{"!(A && D)", "if[A]>2; if[D!]>3; drop"},
		{"!(A || D)", "if[A!]>3; if[D!]>3; drop"},
		{"!A && !D", "if[A!]>3; if[D!]>3; drop"},
		{"!A || !D", "if[A]>2; if[D!]>3; drop"},
		{"!(!A && D)", "if[A!]>2; if[D!]>3; drop"},
		{"!(A || !D)", "if[A!]>3; if[D]>3; drop"},
		{"A && B && C", "if[A]>4; if[B]>4; if[C]>4; drop"},
		{"A && (B && C)", "if[A]>4; if[B]>4; if[C]>4; drop"},
		{"A || B || C", "if[A!]>3; if[B!]>3; if[C]>4; drop"},
		{"A || (B || C)", "if[A!]>3; if[B!]>3; if[C]>4; drop"},
		{"A && B || C", "if[A]>2; if[B!]>3; if[C]>4; drop"},
		{"A && (B || C)", "if[A]>4; if[B!]>3; if[C]>4; drop"},
		{"(A || B) && C", "if[A!]>2; if[B]>4; if[C]>4; drop"},
		{"A || B && C", "if[A!]>3; if[B]>4; if[C]>4; drop"},
		{"!(A && B || C)", "if[A]>2; if[B!]>4; if[C!]>4; drop"},
		{"!((A || B) && C)", "if[A!]>2; if[B]>3; if[C!]>4; drop"},
		{"!(A || B && C)", "if[A!]>4; if[B]>3; if[C!]>4; drop"},
		{"!(A && (B || C))", "if[A]>3; if[B!]>4; if[C!]>4; drop"},
		{"A && B || C && D", "if[A]>2; if[B!]>4; if[C]>5; if[D]>5; drop"},
		{"(A || B) && (C || D)", "if[A!]>2; if[B]>5; if[C!]>4; if[D]>5; drop"},
		{"!(A && B) && !(C || D)", "if[A]>2; if[B!]>5; if[C!]>5; if[D!]>5; drop"},
		{"!(!(A || B) || !(C && D))", "if[A!]>2; if[B]>5; if[C]>5; if[D]>5; drop"},
	} {
		rows = append(rows, row{"if (" + parts.Replace(x.text) + ") { drop; }", codes.Replace(x.told)})
	}
	wantInsts(t, -1, rows)
	// What a comparison turns round is turned round once more.
	wantInsts(t, -1, []row{
		{"if (port != 1) { }", "if[port9 const9=1 eq1 not1]>1"},
		{"if (!(port != 1)) { }", "if[port9 const9=1 eq1 not1 not1]>1"},
		{"if (port > 1 || port >= 3) { }", "if[port9 const9=1 le1 not1 not1]>2; if[port9 const9=3 lt1 not1]>2"},
		{"if (isValid(h) || port == 2) { drop; } else { apply t; }", "if[valid1 not1]>2; if[port9 const9=2 eq1]>4; drop; jump>5; apply"},
		{"apply t; if (isValid(h) && port == 2) { drop; } else { apply a; } drop;", "apply; if[valid1]>5; if[port9 const9=2 eq1]>5; drop; jump>6; apply(1,0); drop"},
		{"apply t; if (isValid(h) || port == 2) { } else { }", "apply; if[valid1 not1]>3; if[port9 const9=2 eq1]>3"},
	})
	wantInsts(t, 0, []row{{"if (!(x == 1 || y == 2)) { }", "if[param9 const9=1 eq1 not1]>2; if[param8(1,0) const8=2 eq1 not1]>2"}})
}

// Blocks as deep as may be, and as long.
func TestP10_1GreatBlocks(t *testing.T) {
	text, want := "drop;", "drop"
	for depth := 2; depth <= api.MaxBlocks; depth++ {
		text = "if (isValid(h)) { " + text + " }"
	}
	for depth := 2; depth <= api.MaxBlocks; depth++ {
		want = "if[valid1]>" + string(rune('0'+api.MaxBlocks)) + "; " + want
	}
	wantInsts(t, -1, []row{{text, want}})
	wantInsts(t, 1, []row{{strings.Repeat("drop; ", api.MaxStmts), strings.Repeat("drop; ", api.MaxStmts-1) + "drop"}})
	// 32 blocks of 32 statements: each one has a condition, too.
	all := insts(t, -1, strings.Repeat("if (port == 1) { "+strings.Repeat("drop; ", 32)+"} ", 32))
	if len(all) != 33*32 || all[0].To != 33 || all[31*33].To != 32*33 {
		t.Errorf("%d instructions", len(all))
	}
}
