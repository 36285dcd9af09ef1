package entries

import (
	"slices"

	"quillon/api"
	"quillon/cursor"
	"quillon/match"
	"quillon/num"
)

const (
	anyMark  = "_"
	lenMark  = "/"
	maskMark = "&&&"
	prioName = "prio"
	runMark  = "->"
)

// A reader goes through a text's tokens, and through an entry's parts in their order.
type reader struct {
	*cursor.Cursor
	rules
	switches []string
	forms    map[form]func(x written, w int) api.Pat
	e        api.Entry // what is read of it so far
}

// A form is a kind of a key, and by which mark a pattern is written: none is that of a number alone.
type form struct {
	kind uint8
	mark string
}

// What is written of a pattern: its mark, and the numbers around that.
type written struct {
	mark          string
	first, second api.Token
}

func newReader(p api.Prog, switches []string, s string) *reader {
	r := &reader{Cursor: cursor.Of(s), rules: newRules(p), switches: switches}
	r.forms = map[form]func(x written, w int) api.Pat{
		{api.KeyExact, ""}:         r.exact,
		{api.KeyPrefix, lenMark}:   r.prefix,
		{api.KeyPrefix, anyMark}:   r.open,
		{api.KeyTernary, ""}:       r.exact,
		{api.KeyTernary, maskMark}: r.masked,
		{api.KeyTernary, anyMark}:  r.open,
	}
	return r
}

func (r *reader) all() [][]api.Entry {
	lists := make([][]api.Entry, len(r.switches))
	for !r.AtEnd() {
		first := r.Next()
		n := r.named(r.switches)
		r.NeedAt(first, len(lists[n]) < api.MaxEntries, api.ErrOver)
		r.entry()
		lists[n] = append(lists[n], r.e)
	}
	return lists
}

// named is the number of the first one that is called by the next token.
func (r *reader) named(names []string) int {
	t := r.Next()
	n := slices.Index(names, r.Name())
	r.NeedAt(t, n >= 0, api.ErrNone)
	return n
}

// entry reads what stands behind a switch.
func (r *reader) entry() {
	r.Want(".")
	r.e = api.Entry{Tab: r.named(r.Names.Tables)}
	r.Want(":")
	r.Row(r.pattern)
	r.Need(r.Is(prioName) || r.Is(runMark), api.ErrForm)
	r.Need(len(r.e.Pats) == len(r.table().Keys), api.ErrShort)
	r.e.Len = r.prefixLength(r.e)
	if r.Skip(prioName) {
		r.e.Prio = r.Bare(r.Number(), 0, api.MaxPrio, api.ErrOver)
	}
	r.Want(runMark)
	r.run()
	r.Want(";")
}

func (r *reader) table() api.Tab { return r.Tabs[r.e.Tab] }

func (r *reader) pattern() {
	first, n := r.Next(), len(r.e.Pats)
	r.Need(r.Is(anyMark) || first.Kind == api.TokNumber, api.ErrForm)
	r.Need(n < len(r.table().Keys), api.ErrOver)
	x := r.written()
	made, is := r.forms[form{r.table().Kinds[n], x.mark}]
	r.NeedAt(first, is, api.ErrKind)
	r.e.Pats = append(r.e.Pats, made(x, r.widths[r.e.Tab][n]))
}

func (r *reader) written() written {
	if r.Is(anyMark) {
		return written{mark: r.Take().S}
	}
	x := written{first: r.Number()}
	if r.Is(lenMark) || r.Is(maskMark) {
		x.mark, x.second = r.Take().S, r.Number()
	}
	return x
}

// What is wrong with a pattern's numbers is found here, behind its form: no error of layer 11 is left.

func (r *reader) exact(x written, w int) api.Pat {
	p, _ := match.Exact(r.fitting(x.first, w), w)
	return p
}

func (r *reader) prefix(x written, w int) api.Pat {
	n := r.fitting(x.first, w)
	p, _ := match.Prefix(n, r.Bare(x.second, 0, w, api.ErrOver), w)
	return p
}

func (r *reader) masked(x written, w int) api.Pat {
	n := r.fitting(x.first, w)
	p, _ := match.Masked(n, r.fitting(x.second, w), w)
	return p
}

func (r *reader) open(written, int) api.Pat { return api.Pat{} }

// fitting is a number that goes to a width.
func (r *reader) fitting(t api.Token, w int) api.Num {
	r.NeedAt(t, t.W == 0 || t.W == w, api.ErrWidth)
	r.NeedAt(t, num.Fits(t.N, w), api.ErrOver)
	return t.N
}

func (r *reader) run() {
	name := r.Next()
	r.e.Run.Act = r.named(r.Names.Actions)
	r.NeedAt(name, slices.Contains(r.table().Acts, r.e.Run.Act), api.ErrNone)
	r.Want("(")
	if !r.Is(")") {
		r.Row(r.argument)
	}
	r.Need(r.Is(")"), api.ErrForm)
	r.Need(len(r.e.Run.Args) == len(r.params()), api.ErrShort)
	r.Take()
}

func (r *reader) params() []int { return r.Acts[r.e.Run.Act].Params }

func (r *reader) argument() {
	t, n := r.Number(), len(r.e.Run.Args)
	r.NeedAt(t, n < len(r.params()), api.ErrOver)
	r.e.Run.Args = append(r.e.Run.Args, r.fitting(t, r.params()[n]))
}
