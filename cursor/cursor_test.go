package cursor_test

import (
	"slices"
	"testing"

	"quillon/api"
	"quillon/cursor"
	"quillon/sample"
	"quillon/text"
)

// gaveUp is what a reading gives up with; the zero Fault, if it does not.
func gaveUp(s string, read func(c *cursor.Cursor)) (fault api.Fault) {
	defer func() {
		if f, is := recover().(api.Fault); is {
			fault = f
		}
	}()
	read(cursor.Of(s))
	return api.Fault{}
}

// wantFault wants the error where the @ stands.
func wantFault(t *testing.T, s string, e api.Errno, read func(c *cursor.Cursor)) {
	t.Helper()
	spot, at, is := sample.Spot(s)
	if got, want := gaveUp(spot, read), text.Fault(spot, at, e); !is || got != want {
		t.Errorf("%q gives up with %v, want %v", s, got, want)
	}
}

func TestTokensInTheirOrder(t *testing.T) {
	c := cursor.Of("a if 8w5 ; ;")
	if c.AtEnd() || !c.Is("a") || c.Is("if") || c.Skip("if") || c.Name() != "a" || !c.Skip("if") {
		t.Error("a, if")
	}
	if x := c.Next(); x.S != "8w5" || c.Number() != x || x.W != 8 || x.N.Lo != 5 {
		t.Error(x)
	}
	if c.Want(";", ";"); !c.AtEnd() || c.Next().Kind != api.TokEnd || c.Skip(";") {
		t.Error("the end")
	}
}

func TestRow(t *testing.T) {
	for s, want := range map[string][]string{"a": {"a"}, "a, b,c d": {"a", "b", "c"}} {
		var got []string
		c := cursor.Of(s)
		c.Row(func() { got = append(got, c.Name()) })
		if !slices.Equal(got, want) {
			t.Errorf("of %s is read %v", s, got)
		}
	}
	names := func(c *cursor.Cursor) { c.Row(func() { c.Name() }) }
	wantFault(t, "@", api.ErrForm, names)
	wantFault(t, "a,@", api.ErrForm, names)
	wantFault(t, "a, @, b", api.ErrForm, names)
}

func TestGivesUp(t *testing.T) {
	wantFault(t, "a; @$", api.ErrForm, func(c *cursor.Cursor) { c.Name() })
	for _, s := range []string{"@", "@if", "@_", "@1", "@;"} {
		wantFault(t, s, api.ErrForm, func(c *cursor.Cursor) { c.Name() })
	}
	for _, s := range []string{"@", "@a", "@_", "@;"} {
		wantFault(t, s, api.ErrForm, func(c *cursor.Cursor) { c.Number() })
	}
	wantFault(t, ";\n @: ;", api.ErrForm, func(c *cursor.Cursor) { c.Want(";", ";") })
	wantFault(t, "a @b", api.ErrTwice, func(c *cursor.Cursor) {
		c.Need(c.Take().S == "a", api.ErrDeep)
		c.Need(c.Is("a"), api.ErrTwice)
	})
	wantFault(t, "@a b", api.ErrTwice, func(c *cursor.Cursor) { c.NeedAt(c.Take(), false, api.ErrTwice) })
}

func TestBare(t *testing.T) {
	bare := func(c *cursor.Cursor) { c.Bare(c.Number(), 2, 9, api.ErrSum) }
	for _, s := range []string{"@1", "@0", "@10", "@18446744073709551620", "@340282366920938463463374607431768211455"} {
		wantFault(t, s, api.ErrSum, bare)
	}
	wantFault(t, "@8w5", api.ErrWidth, bare)
	wantFault(t, "@8w1", api.ErrWidth, bare)
	for s, want := range map[string]int{"2": 2, "9": 9, "0x5": 5} {
		c := cursor.Of(s)
		if n := c.Bare(c.Number(), 2, 9, api.ErrSum); n != want {
			t.Errorf("of %s is read %d", s, n)
		}
	}
}
