package topo_test

import (
	"slices"
	"strconv"
	"strings"

	"quillon/api"
	"quillon/num"
	"quillon/sample"
	"quillon/text"
	"quillon/token"
)

// The chapter's text as places, each with what may stand there and the place behind that.
const places = `
between  switch word  link tie  <end> end
word     <name> name
name     { open
open     } between    <number> port
port     ; open
tie      <name> from
from     : ahead
ahead    <number> first
first    <name> to
to       : behind
behind   <number> second
second   ; tied
tied     link tie     <end> end
`

// A reckoner keeps what is read as words: which ports there are, and how many links each is in.
type reckoner struct {
	names []string
	ports map[string][]string // of each switch, in the text's order
	in    map[string]int      // of each end, as NAME:PORT
	ends  []string
	at    string // the switch that was named last
}

// reckonedRead is Read reckoned in another way: by places, and by words.
func reckonedRead(s string) (api.Net, api.Fault) {
	tokens, f := token.Lex(s)
	if f.E != api.OK {
		return api.Net{}, f
	}
	r := &reckoner{ports: map[string][]string{}, in: map[string]int{}}
	l := sample.Follow(places, tokens)
	for i, place := range l {
		if e := r.look(place, tokens[i]); e != api.OK {
			return api.Net{}, text.Fault(s, tokens[i].At, e)
		}
	}
	if len(l) < len(tokens) {
		return api.Net{}, text.Fault(s, tokens[len(l)].At, api.ErrForm)
	}
	return r.net(), api.Fault{}
}

func (r *reckoner) look(place string, x api.Token) api.Errno {
	switch place {
	case "word":
		if len(r.names) == 8 {
			return api.ErrOver
		}
	case "name":
		if slices.Contains(r.names, x.S) {
			return api.ErrTwice
		}
		r.names, r.at = append(r.names, x.S), x.S
	case "port":
		return r.port(x)
	case "from", "to":
		if !slices.Contains(r.names, x.S) {
			return api.ErrNone
		}
		r.at = x.S
	case "first", "second":
		return r.end(x)
	}
	return api.OK
}

func (r *reckoner) port(x api.Token) api.Errno {
	if len(r.ports[r.at]) == 8 {
		return api.ErrOver
	}
	if e := wrongNumber(x); e != api.OK {
		return e
	}
	digits := num.Text(x.N)
	if slices.Contains(r.ports[r.at], digits) {
		return api.ErrTwice
	}
	r.ports[r.at] = append(r.ports[r.at], digits)
	return api.OK
}

func (r *reckoner) end(x api.Token) api.Errno {
	if e := wrongNumber(x); e != api.OK {
		return e
	}
	digits := num.Text(x.N)
	if !slices.Contains(r.ports[r.at], digits) {
		return api.ErrNone
	}
	e := r.at + ":" + digits
	r.in[e]++
	if r.in[e] > 1 {
		return api.ErrTwice
	}
	r.ends = append(r.ends, e)
	return api.OK
}

func wrongNumber(x api.Token) api.Errno {
	switch {
	case x.W != 0:
		return api.ErrWidth
	case num.Cmp(x.N, num.Of(1)) < 0 || num.Cmp(x.N, num.Of(511)) > 0:
		return api.ErrOver
	}
	return api.OK
}

func (r *reckoner) net() api.Net {
	n := api.Net{Switches: r.names}
	for _, name := range r.names {
		var l []int
		for p := 1; p <= 511; p++ {
			if slices.Contains(r.ports[name], strconv.Itoa(p)) {
				l = append(l, p)
			}
		}
		n.Ports = append(n.Ports, l)
	}
	for i := 0; i+1 < len(r.ends); i += 2 {
		n.Links = append(n.Links, link(r.endOf(r.ends[i]), r.endOf(r.ends[i+1])))
	}
	return n
}

func (r *reckoner) endOf(s string) api.End {
	name, digits, _ := strings.Cut(s, ":")
	p, _ := strconv.Atoi(digits)
	return end(slices.Index(r.names, name), p)
}

// reckonedMay is May reckoned in another way: by counts of all that there is.
func reckonedMay(n api.Net) bool {
	names, ends := map[string]int{}, map[api.End]int{}
	for _, s := range n.Switches {
		names[s]++
		if l, _ := token.Lex(s); len(l) != 2 || l[0].S != s || l[0].Kind != api.TokName || token.IsKeyword(s) {
			return false
		}
	}
	if len(names) != len(n.Switches) || len(names) > 8 || len(n.Ports) != len(names) {
		return false
	}
	for i, l := range n.Ports {
		for _, p := range l {
			ends[end(i, p)] = 0
		}
		sorted := slices.Compact(slices.Sorted(slices.Values(l)))
		if len(l) > 8 || !slices.Equal(sorted, l) || len(l) > 0 && (l[0] < 1 || l[len(l)-1] > 511) {
			return false
		}
	}
	ports := len(ends)
	for _, l := range n.Links {
		ends[l.A]++
		ends[l.B]++
	}
	for _, many := range ends {
		if many > 1 {
			return false
		}
	}
	return len(ends) == ports
}
