package topo

import (
	"slices"

	"quillon/api"
	"quillon/token"
)

// minPort is the least port: 0 is none.
const minPort = 1

func maySwitches(names []string) bool {
	if len(names) > api.MaxSwitches {
		return false
	}
	for i, name := range names {
		if !token.IsName(name) || slices.Contains(names[:i], name) {
			return false
		}
	}
	return true
}

func mayPorts(ports []int) bool {
	if len(ports) > api.MaxPorts {
		return false
	}
	least := minPort
	for _, p := range ports {
		if p < least || p > api.MaxPort {
			return false
		}
		least = p + 1
	}
	return true
}

// mayLinks is of a network whose switches and ports may be: these bound how many ends are gone through.
func mayLinks(n api.Net) bool {
	var linked []api.End
	for _, l := range n.Links {
		for _, e := range [...]api.End{l.A, l.B} {
			if !isThere(n, e) || slices.Contains(linked, e) {
				return false
			}
			linked = append(linked, e)
		}
	}
	return true
}

// isThere tells whether an end is a port of a switch: of a network that may not be a list of ports may lack, or be of no switch.
func isThere(n api.Net, e api.End) bool {
	return 0 <= e.Switch && e.Switch < len(n.Switches) && e.Switch < len(n.Ports) && slices.Contains(n.Ports[e.Switch], e.Port)
}
