package parse_test

import (
	"reflect"
	"testing"

	"quillon/api"
	"quillon/ast"
	"quillon/parse"
	"quillon/print"
	"quillon/sample"
	"quillon/text"
)

var (
	lit, field, meta, param, port, valid = sample.Lit, sample.Field, sample.Meta, sample.Param, sample.Port, sample.Valid
	of, slice                            = sample.Of, sample.Slice
)

// marked is sample's Spot of a text that has one.
func marked(t *testing.T, s string) (string, int) {
	t.Helper()
	spot, at, is := sample.Spot(s)
	if !is {
		t.Fatalf("not one @ in %.500q", s)
	}
	return spot, at
}

func wantExpr(t *testing.T, s string, want api.Expr) {
	t.Helper()
	got, f := parse.Expr(s)
	if f != (api.Fault{}) || !ast.SameExpr(got, want) {
		t.Errorf("Expr(%.300q) = %.500s, %v; want %.500s", s, print.Expr(got), f, print.Expr(want))
	}
}

// wantExprFault wants the error where the @ stands.
func wantExprFault(t *testing.T, s string, e api.Errno) {
	t.Helper()
	s, at := marked(t, s)
	got, f := parse.Expr(s)
	if want := text.Fault(s, at, e); f != want || !reflect.DeepEqual(got, api.Expr{}) {
		t.Errorf("Expr(%.300q) = %.300s, %v; want %v", s, print.Expr(got), f, want)
	}
}

// wantFine wants a program that may be, with as many places as items.
func wantFine(t *testing.T, s string) {
	t.Helper()
	p, places, f := parse.Program(s)
	if f != (api.Fault{}) || !ast.May(p) || len(places) != ast.Items(p) {
		t.Errorf("Program of\n%.3000s\nis %+v, %v, %v", s, p, places, f)
	}
}

// wantFault wants the error where the @ stands.
func wantFault(t *testing.T, s string, e api.Errno) {
	t.Helper()
	s, at := marked(t, s)
	p, places, f := parse.Program(s)
	if want := text.Fault(s, at, e); f != want || !reflect.DeepEqual(p, api.Program{}) || len(places) > 0 {
		t.Errorf("Program of\n%.3000s\nis %+v, %v, %v; want %v", s, p, places, f, want)
	}
}

// lexed are a text's tokens, without the one behind all.
func lexed(t *testing.T, s string) []api.Token {
	t.Helper()
	l, is := sample.Tokens(s)
	if !is {
		t.Fatalf("no tokens: %.500q", s)
	}
	return l
}

// A place is what stands around a part of a program's text that is to be looked at.
type place func(s string) string

const (
	aParser = " parser { state s { transition accept; } } "
	theEnd  = " control { } deparser { }"
)

func atTop(s string) string     { return s + " metadata { }" + aParser + theEnd }
func inHeader(s string) string  { return atTop("header h { " + s + " }") }
func inMetas(s string) string   { return "metadata { " + s + " }" + aParser + theEnd }
func inParser(s string) string  { return "metadata { } parser { " + s + " }" + theEnd }
func inState(s string) string   { return inParser("state s { " + s + " }") }
func inSelect(s string) string  { return inState("transition select(" + s + ") { default: accept; }") }
func inCases(s string) string   { return inState("transition select(port, port) { " + s + " }") }
func inActions(s string) string { return "metadata { }" + aParser + s + theEnd }
func inParams(s string) string  { return inActions("action a(" + s + ") { }") }
func inBody(s string) string    { return inActions("action a() { " + s + " }") }
func inTable(s string) string   { return inActions("table t { " + s + " }") }
func inKeys(s string) string    { return inTable("key { " + s + " } actions { a; } default a();") }
func inListed(s string) string {
	return inTable("key { port: exact; } actions { " + s + " } default a();")
}
func inDefault(s string) string { return inTable("key { port: exact; } actions { a; } default " + s) }
func inArgs(s string) string    { return inDefault("a(" + s + ");") }
func inControl(s string) string {
	return "metadata { }" + aParser + "control { " + s + " } deparser { }"
}
func inThen(s string) string { return inControl("if (port) { " + s + " }") }
func inElse(s string) string { return inControl("if (port) { } else { " + s + " }") }
func inDeparser(s string) string {
	return "metadata { }" + aParser + "control { } deparser { " + s + " }"
}
func inExpr(s string) string { return inControl("meta.m = " + s + ";") }
