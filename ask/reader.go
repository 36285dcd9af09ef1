package ask

import (
	"slices"

	"quillon/api"
	"quillon/cursor"
	"quillon/lower"
	"quillon/parse"
	"quillon/text"
	"quillon/topo"
)

// A reader goes through a text's tokens; its calls give up by panic.
type reader struct {
	*cursor.Cursor
	text  string
	tree  api.Program
	net   api.Net
	kinds map[string]uint8 // of queries, by the words that begin them
}

func newReader(p api.Program, n api.Net, s string) *reader {
	return &reader{Cursor: cursor.Of(s), text: s, tree: p, net: n, kinds: map[string]uint8{
		"reach": api.AskReach, "isolate": api.AskIsolate,
		"drop": api.AskDrop, "loop": api.AskLoop, "invalid": api.AskInvalid,
	}}
}

func (r *reader) all() api.Asks {
	var a api.Asks
	a.Len = r.bound("length", minLen, api.MaxLen)
	a.Hops = r.bound("hops", minHops, api.MaxHops)
	a.Nodes = r.bound("nodes", api.MinNodes, api.MaxNodes)
	for !r.AtEnd() {
		r.Need(len(a.L) < api.MaxAsks, api.ErrOver)
		a.L = append(a.L, r.ask())
	}
	return a
}

func (r *reader) bound(word string, least, most int) int {
	r.Want(word)
	n := r.Bare(r.Number(), least, most, api.ErrOver)
	r.Want(";")
	return n
}

func (r *reader) ask() api.Ask {
	kind, is := r.kinds[r.Next().S]
	r.Need(is, api.ErrForm)
	r.Take()
	a := api.Ask{Kind: kind, From: r.ends()}
	if hasTo(kind) {
		r.Want("to")
		a.To = r.ends()
	}
	if r.Skip("where") {
		a.Pred = r.pred()
	}
	r.Want(";")
	return a
}

func (r *reader) ends() []api.End {
	var l []api.End
	r.Row(func() { l = append(l, r.newEnd(l)) })
	return l
}

// newEnd reads an end that is not linked, and not in a list.
func (r *reader) newEnd(l []api.End) api.End {
	name := r.Next()
	e := api.End{Switch: topo.Find(r.net, r.Name())}
	r.NeedAt(name, e.Switch >= 0, api.ErrNone)
	r.Want(":")
	number := r.Number()
	e.Port = r.Bare(number, 0, api.MaxPort, api.ErrNone)
	_, there, linked := topo.Next(r.net, e)
	r.NeedAt(number, there, api.ErrNone)
	r.NeedAt(number, !linked, api.ErrKind)
	r.NeedAt(number, !slices.Contains(l, e), api.ErrTwice)
	return e
}

// pred reads up to the next ; , which no expression has in it: layer 6 is handed the bytes ahead of that.
func (r *reader) pred() api.Code {
	first := r.Next()
	for !r.Is(";") {
		r.Need(!r.AtEnd(), api.ErrForm)
		r.Take()
	}
	part := r.text[first.At:r.Next().At]
	e, fault := parse.Expr(part)
	if fault.E != api.OK {
		at, _ := text.At(part, fault.At)
		panic(text.Fault(r.text, first.At+at, fault.E))
	}
	code, wrong := lower.Pred(r.tree, e)
	r.NeedAt(first, wrong == api.OK, wrong)
	return code
}
