package resolve_test

import (
	"math/rand"
	"slices"
	"testing"

	"quillon/api"
	"quillon/parse"
	"quillon/print"
	"quillon/resolve"
	"quillon/token"
)

type set map[string]bool

func setOf[T any](l []T, name func(T) string) set {
	s := set{}
	for _, x := range l {
		s[name(x)] = true
	}
	return s
}

func fieldName(f api.Field) string { return f.Name }

// An oracle goes through a program once, with sets of names, and keeps of each item what is wrong with it.
type oracle struct {
	headers                        map[string]set // each one's fields
	metas, states, actions, tables set
	params                         set
	inAction                       bool
	errors                         []api.Errno
}

func (o *oracle) item(rules ...any) {
	for i := 0; i < len(rules); i += 2 {
		if rules[i].(bool) {
			o.errors = append(o.errors, rules[i+1].(api.Errno))
			return
		}
	}
	o.errors = append(o.errors, api.OK)
}

// once adds a name, and tells whether it was there already.
func (s set) once(name string) bool {
	was := s[name]
	s[name] = true
	return was
}

func (o *oracle) lacks(e api.Expr) bool {
	switch {
	case e.Op == api.ExField && !o.headers[e.Head][e.Name],
		e.Op == api.ExMeta && !o.metas[e.Name],
		e.Op == api.ExParam && !o.params[e.Name],
		e.Op == api.ExValid && o.headers[e.Head] == nil:
		return true
	}
	return slices.ContainsFunc(e.Args, o.lacks)
}

func (o *oracle) block(l []api.Stmt) {
	for _, s := range l {
		noTarget := s.Kind == api.StSet && (s.Head == "" && !o.metas[s.Name] || s.Head != "" && !o.headers[s.Head][s.Name])
		noTable := s.Kind == api.StApply && !o.tables[s.Name]
		noHeader := (s.Kind == api.StValid || s.Kind == api.StInvalid) && o.headers[s.Head] == nil
		o.item(s.Kind == api.StApply && o.inAction, api.ErrKind, noTarget || noTable || noHeader || o.lacks(s.E), api.ErrNone)
		o.block(s.Then)
		o.block(s.Else)
	}
}

func (o *oracle) headersAndMetas(p api.Program) {
	names := set{}
	for _, h := range p.Headers {
		sum := 0
		for _, f := range h.Fields {
			sum += f.W
		}
		o.item(names.once(h.Name), api.ErrTwice, sum%8 != 0 || sum > 256, api.ErrWidth)
		fields := set{}
		for _, f := range h.Fields {
			o.item(fields.once(f.Name), api.ErrTwice)
		}
	}
	metas := set{}
	for _, m := range p.Metas {
		o.item(metas.once(m.Name), api.ErrTwice)
	}
}

func (o *oracle) parser(p api.Program) {
	names := set{}
	for _, s := range p.States {
		o.item(names.once(s.Name), api.ErrTwice)
		for _, name := range s.Takes {
			o.item(o.headers[name] == nil, api.ErrNone)
		}
		o.item(s.To != "" && !o.states[s.To] || slices.ContainsFunc(s.Keys, o.lacks), api.ErrNone)
		for _, c := range s.Cases {
			o.item(!o.states[c.To], api.ErrNone)
		}
	}
}

func (o *oracle) actionsAndTables(p api.Program) {
	names, params := set{}, map[string]int{}
	o.inAction = true
	for _, a := range p.Actions {
		if !names[a.Name] {
			params[a.Name] = len(a.Params)
		}
		o.item(names.once(a.Name), api.ErrTwice)
		o.params = set{}
		for _, f := range a.Params {
			o.item(o.params.once(f.Name), api.ErrTwice)
		}
		o.block(a.Body)
	}
	o.params, o.inAction, names = nil, false, set{}
	for _, x := range p.Tables {
		o.item(names.once(x.Name), api.ErrTwice)
		for _, k := range x.Keys {
			o.item(o.lacks(k.E), api.ErrNone)
		}
		listed := set{}
		for _, name := range x.Actions {
			o.item(!o.actions[name], api.ErrNone, listed.once(name), api.ErrTwice)
		}
		args := len(x.Default.Args)
		o.item(!listed[x.Default.Name], api.ErrNone, args < params[x.Default.Name], api.ErrShort, args > params[x.Default.Name], api.ErrOver)
	}
}

// errorsOf are what is wrong with each item, in their order.
func errorsOf(p api.Program) []api.Errno {
	o := &oracle{
		headers: map[string]set{},
		metas:   setOf(p.Metas, fieldName),
		states:  setOf(p.States, func(s api.State) string { return s.Name }),
		actions: setOf(p.Actions, func(a api.Action) string { return a.Name }),
		tables:  setOf(p.Tables, func(t api.Table) string { return t.Name }),
	}
	o.states["accept"], o.states["reject"] = true, true
	for _, h := range p.Headers {
		if o.headers[h.Name] == nil {
			o.headers[h.Name] = setOf(h.Fields, fieldName)
		}
	}
	o.headersAndMetas(p)
	o.parser(p)
	o.actionsAndTables(p)
	o.block(p.Control)
	emitted := set{}
	for _, name := range p.Emit {
		o.item(o.headers[name] == nil, api.ErrNone, emitted.once(name), api.ErrTwice)
	}
	return o.errors
}

// wantOracle tells also the error.
func wantOracle(t *testing.T, p api.Program) api.Errno {
	t.Helper()
	errors := errorsOf(p)
	n := slices.IndexFunc(errors, func(e api.Errno) bool { return e != api.OK })
	want := api.OK
	if n < 0 {
		n = len(errors)
	} else {
		want = errors[n]
	}
	if got, e := resolve.Check(p); got != n || e != want {
		t.Errorf("Check is %d, %d, want %d, %d, of\n%s", got, e, n, want, print.Program(p))
	}
	return want
}

// names are the tokens of a text that are names: where each begins.
func names(t *testing.T, s string) []api.Token {
	t.Helper()
	l, f := token.Lex(s)
	if f != (api.Fault{}) {
		t.Fatal(f)
	}
	return slices.DeleteFunc(l, func(x api.Token) bool { return !token.IsName(x.S) })
}

// Each name of a program, in place of which each other one stands.
func TestP7_2CheckEachName(t *testing.T) {
	pool := []string{"h", "i", "f", "g", "x", "y", "m", "s", "t", "u", "w", "a", "b", "c", "nobody"}
	told := map[api.Errno]int{}
	for _, x := range names(t, whole) {
		for _, name := range pool {
			p, _ := read(t, whole[:x.At]+name+whole[x.At+len(x.S):])
			told[wantOracle(t, p)]++
		}
	}
	if told[api.OK] < 100 || told[api.ErrNone] < 500 || told[api.ErrTwice] < 20 || told[api.ErrOver] == 0 {
		t.Errorf("told are %v", told)
	}
}

// Programs of some names that stand anywhere, at random: always the same ones.
func TestP7_2CheckAnyNames(t *testing.T) {
	r := rand.New(rand.NewSource(7))
	pool := []string{"h", "h", "i", "f", "f", "g", "x", "y", "m", "s", "t", "u", "a", "b", "accept"}
	told := map[api.Errno]int{}
	for range 5000 {
		s := whole
		for range 1 + r.Intn(6) {
			l := names(t, s)
			x := l[r.Intn(len(l))]
			s = s[:x.At] + pool[r.Intn(len(pool))] + s[x.At+len(x.S):]
		}
		p, _, f := parse.Program(s)
		if f != (api.Fault{}) {
			continue // accept is no name but of a target
		}
		told[wantOracle(t, p)]++
		// What a text means its print does, too.
		again, _ := read(t, print.Program(p))
		n, e := resolve.Check(p)
		if m, f := resolve.Check(again); m != n || f != e {
			t.Errorf("of its print Check is %d, %d, in place of %d, %d, of\n%s", m, f, n, e, s)
		}
	}
	if told[api.OK] < 100 || told[api.ErrNone] < 1000 || told[api.ErrTwice] < 100 || told[api.ErrOver] == 0 {
		t.Errorf("told are %v", told)
	}
}
