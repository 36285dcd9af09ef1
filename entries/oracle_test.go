package entries_test

import (
	"math/big"
	"slices"
	"strings"

	"quillon/api"
	"quillon/lower"
	"quillon/num"
	"quillon/sample"
	"quillon/text"
	"quillon/token"
)

// The chapter's text as places, each with what may stand there and the place behind that.
const places = `
between   <name> switch    <end> end
switch    . point
point     <name> table
table     : colon
colon     _ any          <number> value
any       , comma        prio prio     -> arrow
value     , comma        prio prio     -> arrow    / slash    &&& and
slash     <number> length
length    , comma        prio prio     -> arrow
and       <number> mask
mask      , comma        prio prio     -> arrow
comma     _ any          <number> value
prio      <number> priority
priority  -> arrow
arrow     <name> action
action    ( open
open      ) close        <number> argument
argument  ) close        , again
again     <number> argument
close     ; between
`

// A found fault: at which token, of which kind, and when: at the token i it is 2i, and 2i+1 once a pattern that ends with it is read. Those of one time stand in the chapter's order.
type found struct {
	at, when int
	e        api.Errno
}

// A reckoner gathers all that is wrong with a text, as far as what its names mean is known.
type reckoner struct {
	p        api.Prog
	switches []string
	tokens   []api.Token
	places   []string
	wrong    []found
	lists    [][]api.Entry
	at       int // the switch
	e        api.Entry
	begin    int // of a pattern, its first token
}

// reckonedRead is Read reckoned in another way: of all faults the one that is found first.
func reckonedRead(p api.Prog, switches []string, s string) ([][]api.Entry, api.Fault) {
	if !lower.May(p) || len(switches) > 8 {
		return nil, api.Fault{E: api.ErrArg, At: api.Place{Line: 1, Col: 1}}
	}
	tokens, f := token.Lex(s)
	if f.E != api.OK {
		return nil, f
	}
	r := &reckoner{p: p, switches: switches, tokens: tokens, places: sample.Follow(places, tokens), lists: make([][]api.Entry, len(switches))}
	known := true
	for i := range r.places {
		if known = known && r.look(i); !known {
			break
		}
	}
	if bad := len(r.places); bad < len(tokens) {
		r.wrong = append(r.wrong, found{bad, 2 * bad, api.ErrForm})
	}
	if len(r.wrong) == 0 {
		return r.lists, api.Fault{}
	}
	first := slices.MinFunc(r.wrong, func(a, b found) int { return a.when - b.when })
	return nil, text.Fault(s, tokens[first.at].At, first.e)
}

func (r *reckoner) want(is bool, at, when int, e api.Errno) {
	if !is {
		r.wrong = append(r.wrong, found{at, when, e})
	}
}

// look is at what a token is; it tells false, if nothing behind it has a meaning.
func (r *reckoner) look(i int) bool {
	x := r.tokens[i]
	switch r.places[i] {
	case "switch":
		r.e = api.Entry{}
		r.at = slices.Index(r.switches, x.S)
		r.want(r.at >= 0, i, 2*i, api.ErrNone)
		if r.at >= 0 {
			r.want(len(r.lists[r.at]) < 64, i, 2*i, api.ErrOver)
		}
		return r.at >= 0
	case "table":
		r.e.Tab = slices.Index(r.p.Names.Tables, x.S)
		r.want(r.e.Tab >= 0, i, 2*i, api.ErrNone)
		return r.e.Tab >= 0
	case "any", "value":
		r.begin = i
		r.want(len(r.e.Pats) < len(r.table().Keys), i, 2*i, api.ErrOver)
	case "prio", "arrow":
		if r.places[i-1] != "priority" {
			r.want(len(r.e.Pats) == len(r.table().Keys), i, 2*i, api.ErrShort)
		}
	case "priority":
		r.want(x.W == 0, i, 2*i, api.ErrWidth)
		r.want(big128(x.N).Cmp(big.NewInt(65536)) <= 0, i, 2*i, api.ErrOver)
		r.e.Prio = int(x.N.Lo)
	case "action":
		r.e.Run.Act = slices.Index(r.p.Names.Actions, x.S)
		is := slices.Contains(r.table().Acts, r.e.Run.Act)
		r.want(is, i, 2*i, api.ErrNone)
		return is
	case "argument":
		r.argument(i, x)
	case "close":
		r.want(len(r.e.Run.Args) == len(r.params()), i, 2*i, api.ErrShort)
	case "between":
		r.lists[r.at] = append(r.lists[r.at], r.e)
	}
	return r.patternEnds(i)
}

func (r *reckoner) table() api.Tab { return r.p.Tabs[r.e.Tab] }

func (r *reckoner) params() []int { return r.p.Acts[r.e.Run.Act].Params }

func (r *reckoner) argument(i int, x api.Token) {
	n := len(r.e.Run.Args)
	r.want(n < len(r.params()), i, 2*i, api.ErrOver)
	if n < len(r.params()) {
		r.number(i, 2*i, r.params()[n])
	}
	r.e.Run.Args = append(r.e.Run.Args, x.N)
}

// number wants that one goes to a width.
func (r *reckoner) number(i, when, w int) {
	x := r.tokens[i]
	r.want(x.W == 0 || x.W == w, i, when, api.ErrWidth)
	r.want(big128(x.N).BitLen() <= w, i, when, api.ErrOver)
}

func big128(n api.Num) *big.Int { return new(big.Int).SetBytes(num.Bytes(n, 16)) }

// patternEnds looks whether a pattern ends with a token, and at that then. It tells false, if that is no pattern of its key.
func (r *reckoner) patternEnds(i int) bool {
	if !strings.Contains(" any value length mask ", " "+r.places[i]+" ") {
		return true
	}
	if i+1 < len(r.places) && (r.places[i+1] == "slash" || r.places[i+1] == "and") {
		return true
	}
	k, when, x := len(r.e.Pats), 2*i+1, r.table()
	if k >= len(x.Keys) {
		return false // it was one too many
	}
	w, _ := lower.Width(r.p, -1, x.Keys[k])
	form := strings.Join(r.places[r.begin:i+1], " ")
	first, last := r.tokens[r.begin].N, r.tokens[i].N
	var pat api.Pat
	switch form {
	case "any":
		r.want(x.Kinds[k] != api.KeyExact, i, when, api.ErrKind)
	case "value":
		r.want(x.Kinds[k] != api.KeyPrefix, i, when, api.ErrKind)
		r.number(i, when, w)
		pat = api.Pat{V: first, M: num.Mask(w)}
	case "value slash length":
		r.want(x.Kinds[k] == api.KeyPrefix, r.begin, when, api.ErrKind)
		r.number(r.begin, when, w)
		r.want(r.tokens[i].W == 0, i, when, api.ErrWidth)
		fits := big128(last).Cmp(big.NewInt(int64(w))) <= 0
		r.want(fits, i, when, api.ErrOver)
		if fits {
			r.e.Len = int(last.Lo)
			pat.M = top(r.e.Len, w)
			pat.V = num.And(first, pat.M)
		}
	case "value and mask":
		r.want(x.Kinds[k] == api.KeyTernary, r.begin, when, api.ErrKind)
		r.number(r.begin, when, w)
		r.number(i, when, w)
		pat = api.Pat{V: num.And(first, last), M: last}
	}
	r.e.Pats = append(r.e.Pats, pat)
	return len(r.wrong) == 0
}

// reckonedMay is May reckoned in another way, of a program that may be.
func reckonedMay(p api.Prog, l []api.Entry) bool {
	if len(l) > 64 {
		return false
	}
	for _, e := range l {
		if e.Tab < 0 || e.Tab >= len(p.Tabs) {
			return false
		}
		x := p.Tabs[e.Tab]
		if len(e.Pats) != len(x.Keys) || e.Prio < 0 || e.Prio > 65536 || !reckonedRun(p, x.Acts, e.Run) {
			return false
		}
		prefixes := 0
		for k, pat := range e.Pats {
			w, _ := lower.Width(p, -1, x.Keys[k])
			signs := signsOf(pat, w)
			switch open := strings.TrimRight(signs, "*"); {
			case strings.Contains(signs, "?"):
				return false
			case x.Kinds[k] == api.KeyExact && strings.Contains(signs, "*"):
				return false
			case x.Kinds[k] == api.KeyPrefix && (strings.Contains(open, "*") || len(open) != e.Len):
				return false
			case x.Kinds[k] == api.KeyPrefix:
				prefixes++
			}
		}
		if prefixes == 0 && e.Len != 0 {
			return false
		}
	}
	return true
}

// signsOf is a pattern's text: of each bit of its width, the highest one first, 0, 1, or * for any one, and ? for one of V outside M; and a ? ahead, if there is a bit above the width.
func signsOf(x api.Pat, w int) string {
	b := make([]byte, 128)
	for i := range b {
		v, m := num.Bit(x.V, 127-i), num.Bit(x.M, 127-i)
		switch {
		case m && v:
			b[i] = '1'
		case m:
			b[i] = '0'
		case v:
			b[i] = '?'
		default:
			b[i] = '*'
		}
	}
	if strings.Trim(string(b[:128-w]), "*") != "" {
		return "?" + string(b[128-w:])
	}
	return string(b[128-w:])
}

func reckonedRun(p api.Prog, listed []int, r api.Run) bool {
	for _, n := range listed {
		if n != r.Act {
			continue
		}
		params := p.Acts[n].Params
		is := len(params) == len(r.Args)
		for i := range min(len(params), len(r.Args)) {
			is = is && big128(r.Args[i]).BitLen() <= params[i]
		}
		return is
	}
	return false
}
