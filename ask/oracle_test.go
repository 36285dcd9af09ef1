package ask_test

import (
	"slices"
	"strconv"
	"strings"

	"quillon/api"
	"quillon/lower"
	"quillon/num"
	"quillon/parse"
	"quillon/sample"
	"quillon/text"
	"quillon/token"
	"quillon/topo"
)

// The chapter's text as places, each with what may stand there and the place behind that. An expression is one token here.
const places = `
start    length length
length   <number> len
len      ; second
second   hops hops
hops     <number> hop
hop      ; third
third    nodes nodes
nodes    <number> node
node     ; between
between  reach ask2    isolate ask2    drop ask    loop ask    invalid ask    <end> end
ask2     <name> switch2
switch2  : colon2
colon2   <number> port2
port2    , more2   to to
more2    <name> switch2
to       <name> switch
ask      <name> switch
switch   : colon
colon    <number> port
port     , more    where where    ; between
more     <name> switch
where    <expr> expr
expr     ; between
`

const exprSign = "<expr>"

// A reckoner keeps which ends stand in the list that is gone through.
type reckoner struct {
	setup
	text   string
	tokens []api.Token
	a      api.Asks
	inTo   bool
	at     string // the switch that was named last
	seen   map[string]int
}

// reckonedRead is Read reckoned in another way: by places.
func reckonedRead(x setup, s string) (api.Asks, api.Fault) {
	tokens, f := token.Lex(s)
	if f.E != api.OK {
		return api.Asks{}, f
	}
	tokens = withExprs(tokens)
	r := &reckoner{setup: x, text: s, tokens: tokens, seen: map[string]int{}}
	l := sample.Follow(places, tokens)
	for i, place := range l {
		if len(r.a.L) == 16 && l[max(i-1, 0)] == "between" && place != "end" {
			return api.Asks{}, text.Fault(s, tokens[i].At, api.ErrOver)
		}
		if f := r.look(i, place); f.E != api.OK {
			return api.Asks{}, f
		}
	}
	if len(l) < len(tokens) {
		e := api.ErrForm
		if len(r.a.L) == 16 && l[len(l)-1] == "between" {
			e = api.ErrOver
		}
		return api.Asks{}, text.Fault(s, tokens[len(l)].At, e)
	}
	return r.a, api.Fault{}
}

// withExprs puts one token for all that stand behind a where, up to the next ; or the end: where that begins is its W.
func withExprs(tokens []api.Token) []api.Token {
	for from := 0; ; {
		l := sample.Follow(places, tokens)
		at := slices.Index(l[min(from, len(l)):], "where")
		if at < 0 {
			return tokens
		}
		from += at + 1
		rest := tokens[from:]
		till := slices.IndexFunc(rest, func(x api.Token) bool { return x.S == ";" || x.Kind == api.TokEnd })
		one := api.Token{Kind: api.TokMark, S: exprSign, At: rest[0].At, W: rest[till].At}
		tokens = slices.Concat(tokens[:from], []api.Token{one}, rest[till:])
	}
}

func (r *reckoner) fault(i int, e api.Errno) api.Fault { return text.Fault(r.text, r.tokens[i].At, e) }

func (r *reckoner) look(i int, place string) api.Fault {
	x := r.tokens[i]
	switch place {
	case "len":
		r.a.Len = int(x.N.Lo)
		return r.fault(i, wrongBound(x, 0, 8))
	case "hop":
		r.a.Hops = int(x.N.Lo)
		return r.fault(i, wrongBound(x, 1, 6))
	case "node":
		r.a.Nodes = int(x.N.Lo)
		return r.fault(i, wrongBound(x, 2, 1048576))
	case "ask", "ask2":
		kinds := []string{"", "reach", "drop", "loop", "invalid", "isolate"}
		r.a.L = append(r.a.L, api.Ask{Kind: uint8(slices.Index(kinds, x.S))})
		r.inTo = false
		clear(r.seen)
	case "to":
		r.inTo = true
		clear(r.seen)
	case "switch", "switch2":
		r.at = x.S
		if !slices.Contains(r.net.Switches, x.S) {
			return r.fault(i, api.ErrNone)
		}
	case "port", "port2":
		return r.fault(i, r.port(x))
	case "expr":
		return r.expr(i)
	}
	return api.Fault{}
}

func wrongBound(x api.Token, least, most uint64) api.Errno {
	switch {
	case x.W != 0:
		return api.ErrWidth
	case num.Cmp(x.N, num.Of(least)) < 0 || num.Cmp(x.N, num.Of(most)) > 0:
		return api.ErrOver
	}
	return api.OK
}

// port looks at the texts of a network's ports and links.
func (r *reckoner) port(x api.Token) api.Errno {
	n := slices.Index(r.net.Switches, r.at)
	is := func(p int) bool { return strconv.Itoa(p) == num.Text(x.N) }
	i := slices.IndexFunc(r.net.Ports[n], is)
	e := r.at + ":" + num.Text(x.N)
	r.seen[e]++
	switch {
	case x.W != 0:
		return api.ErrWidth
	case i < 0:
		return api.ErrNone
	case strings.Contains(strings.NewReplacer(";", " ", "\n", " ").Replace(topo.Text(r.net)), " "+e+" "):
		return api.ErrKind
	case r.seen[e] > 1:
		return api.ErrTwice
	}
	q := &r.a.L[len(r.a.L)-1]
	l := &q.From
	if r.inTo {
		l = &q.To
	}
	*l = append(*l, end(n, r.net.Ports[n][i]))
	return api.OK
}

// expr reads an expression where it stands: all ahead of it is blanks and line ends, so that its places are the text's.
func (r *reckoner) expr(i int) api.Fault {
	x := r.tokens[i]
	if i+1 < len(r.tokens) && r.tokens[i+1].Kind == api.TokEnd {
		return api.Fault{} // the end may not stand behind it: that is the fault
	}
	ahead := []byte(r.text[:x.At])
	for k, b := range ahead {
		if b != '\n' {
			ahead[k] = ' '
		}
	}
	e, f := parse.Expr(string(ahead) + r.text[x.At:x.W])
	if f.E != api.OK {
		return f
	}
	c, wrong := lower.Pred(r.tree, e)
	r.a.L[len(r.a.L)-1].Pred = c
	return r.fault(i, wrong)
}

// reckonedMay is May reckoned in another way, of a program and a network that may be: by counts of all that there is.
func reckonedMay(x setup, a api.Asks) bool {
	if a.Len < 0 || a.Len > 8 || a.Hops < 1 || a.Hops > 6 || a.Nodes < 2 || a.Nodes > 1048576 || len(a.L) > 16 {
		return false
	}
	free := map[api.End]int{}
	for _, e := range freeEnds(x.net) {
		free[e] = 1
	}
	for _, q := range a.L {
		if !slices.Contains([]uint8{1, 2, 3, 4, 5}, q.Kind) || len(q.From) == 0 {
			return false
		}
		if asksTo := q.Kind == 1 || q.Kind == 5; asksTo == (len(q.To) == 0) {
			return false
		}
		for _, l := range [][]api.End{q.From, q.To} {
			many := map[api.End]int{}
			for _, e := range l {
				many[e]++
				if many[e] > free[e] {
					return false
				}
			}
		}
		if w, is := lower.Width(x.prog, -1, q.Pred); len(q.Pred) > 0 && (!is || w != 1) {
			return false
		}
	}
	return true
}
