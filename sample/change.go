package sample

import (
	"slices"
	"strings"

	"quillon/api"
	"quillon/parse"
)

// A Change is made once in a program's text: New stands in place of Old. An @ in New is ahead of the item that is wrong then, by E.
type Change struct {
	Old, New string
	E        api.Errno
}

// In tells false, if Old does not stand in the text just once.
func (c Change) In(s string) (string, bool) {
	return strings.Replace(s, c.Old, c.New, 1), strings.Count(s, c.Old) == 1
}

// Both is a text in which two changes are made, with the @ of that one alone whose @ stands ahead, and that one's error. It tells false, if one of them leaves no place for the other one.
func Both(s string, c, d Change) (string, api.Errno, bool) {
	if strings.Contains(d.Old, c.Old) || strings.Contains(c.Old, d.Old) {
		return "", api.OK, false
	}
	s, first := c.In(s)
	d.New = strings.Replace(d.New, "@", "#", 1)
	s, second := d.In(s)
	if !first || !second {
		return "", api.OK, false
	}
	if strings.Index(s, "@") < strings.Index(s, "#") {
		return strings.Replace(s, "#", "", 1), c.E, true
	}
	s = strings.Replace(s, "@", "", 1)
	return strings.Replace(s, "#", "@", 1), d.E, true
}

// Marked is the program of a text, and the number of the item at the @ in that, or without an @ of the item that would be behind all. It tells false, if there is no such program, or no such item.
func Marked(s string) (api.Program, int, bool) {
	ahead, behind, marked := strings.Cut(s, "@")
	p, places, f := parse.Program(ahead + behind)
	item := len(places)
	if marked {
		item = slices.Index(places, len(ahead))
	}
	return p, item, f == api.Fault{} && item >= 0
}
