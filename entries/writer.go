package entries

import (
	"strconv"
	"strings"

	"quillon/api"
	"quillon/num"
)

// line is an entry's text behind its switch and the point. The entry may be.
func (r rules) line(e api.Entry) string {
	var pats, args []string
	for n, kind := range r.Tabs[e.Tab].Kinds {
		pats = append(pats, patternText(kind, e.Pats[n], e.Len))
	}
	for _, n := range e.Run.Args {
		args = append(args, num.Text(n))
	}
	return r.Names.Tables[e.Tab] + ": " + strings.Join(pats, ", ") + " prio " + strconv.Itoa(e.Prio) +
		" -> " + r.Names.Actions[e.Run.Act] + "(" + strings.Join(args, ", ") + ");\n"
}

func patternText(kind uint8, x api.Pat, length int) string {
	value := num.Text(x.V)
	switch kind {
	case api.KeyPrefix:
		return value + "/" + strconv.Itoa(length)
	case api.KeyTernary:
		return value + " &&& " + num.Text(x.M)
	}
	return value
}
