package topo

import (
	"slices"

	"quillon/api"
	"quillon/cursor"
)

// The text's words; they are names as all others.
const (
	switchName = "switch"
	linkName   = "link"
)

// A reader goes through a text's tokens; its calls give up by panic.
type reader struct {
	*cursor.Cursor
	net    api.Net   // what is read of it so far
	linked []api.End // all ends of links, that of the link that is being read too
}

func newReader(s string) *reader { return &reader{Cursor: cursor.Of(s)} }

func (r *reader) all() api.Net {
	for r.Is(switchName) {
		r.node()
	}
	for !r.AtEnd() {
		r.link()
	}
	return r.net
}

func (r *reader) node() {
	r.Need(len(r.net.Switches) < api.MaxSwitches, api.ErrOver)
	r.Want(switchName)
	first := r.Next()
	name := r.Name()
	r.NeedAt(first, Find(r.net, name) < 0, api.ErrTwice)
	r.net.Switches = append(r.net.Switches, name)
	r.Want("{")
	var ports []int
	for !r.Skip("}") {
		ports = append(ports, r.newPort(ports))
		r.Want(";")
	}
	slices.Sort(ports)
	r.net.Ports = append(r.net.Ports, ports)
}

// newPort reads a port that is not among a switch's.
func (r *reader) newPort(ports []int) int {
	t := r.Number()
	r.NeedAt(t, len(ports) < api.MaxPorts, api.ErrOver)
	p := r.port(t)
	r.NeedAt(t, !slices.Contains(ports, p), api.ErrTwice)
	return p
}

func (r *reader) port(t api.Token) int { return r.Bare(t, minPort, api.MaxPort, api.ErrOver) }

func (r *reader) link() {
	r.Want(linkName)
	a := r.freeEnd()
	b := r.freeEnd()
	r.Want(";")
	r.net.Links = append(r.net.Links, api.Link{A: a, B: b})
}

// freeEnd reads an end that is in no link, and is from then on.
func (r *reader) freeEnd() api.End {
	name := r.Next()
	e := api.End{Switch: Find(r.net, r.Name())}
	r.NeedAt(name, e.Switch >= 0, api.ErrNone)
	r.Want(":")
	number := r.Number()
	e.Port = r.port(number)
	r.NeedAt(number, isThere(r.net, e), api.ErrNone)
	r.NeedAt(number, !slices.Contains(r.linked, e), api.ErrTwice)
	r.linked = append(r.linked, e)
	return e
}
