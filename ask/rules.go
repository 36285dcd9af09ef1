package ask

import (
	"slices"

	"quillon/api"
	"quillon/lower"
	"quillon/topo"
)

// The least that a length and hops may be.
const (
	minLen  = 0
	minHops = 1
)

const (
	noAction  = -1 // the action of what is in none
	truthBits = 1
)

// Rules say what queries may be of a program and a network, that may be themselves.
type rules struct {
	prog api.Prog
	net  api.Net
}

func (r rules) may(a api.Asks) bool {
	return isAmong(a.Len, minLen, api.MaxLen) && isAmong(a.Hops, minHops, api.MaxHops) && isAmong(a.Nodes, api.MinNodes, api.MaxNodes) &&
		len(a.L) <= api.MaxAsks && !slices.ContainsFunc(a.L, r.mayNot)
}

func (r rules) mayNot(a api.Ask) bool {
	if a.Kind < api.AskReach || a.Kind > api.AskIsolate {
		return true
	}
	return len(a.From) == 0 || (len(a.To) > 0) != hasTo(a.Kind) || !r.mayEnds(a.From) || !r.mayEnds(a.To) || !r.mayPred(a.Pred)
}

// mayEnds stops where an end is there already: a network's ends bound how many are gone through.
func (r rules) mayEnds(l []api.End) bool {
	for i, e := range l {
		_, there, linked := topo.Next(r.net, e)
		if !there || linked || slices.Contains(l[:i], e) {
			return false
		}
	}
	return true
}

func (r rules) mayPred(c api.Code) bool {
	w, _ := lower.Width(r.prog, noAction, c)
	return len(c) == 0 || w == truthBits
}

func hasTo(kind uint8) bool { return kind == api.AskReach || kind == api.AskIsolate }

func isAmong(n, least, most int) bool { return least <= n && n <= most }
