package sample

import (
	"slices"
	"strings"

	"quillon/api"
	"quillon/token"
)

// Spot is a text without the one @ in it, and where the token behind that begins: no token has an @. It tells false, if there is not one @.
func Spot(s string) (string, int, bool) {
	ahead, behind, _ := strings.Cut(s, "@")
	blanks := len(behind) - len(strings.TrimLeft(behind, " \n"))
	return ahead + behind, len(ahead) + blanks, strings.Count(s, "@") == 1
}

// Tokens are a text's, without the one behind all. It tells false, if there is a fault.
func Tokens(s string) ([]api.Token, bool) {
	l, f := token.Lex(s)
	if f.E != api.OK {
		return nil, false
	}
	return l[:len(l)-1], true
}

// Strays are tokens of each word and mark, a name and numbers.
func Strays() []api.Token {
	l, _ := Tokens(`header metadata bit parser state extract transition select accept reject default action table key actions exact lpm ternary control apply if else drop forward valid invalid deparser emit meta port isValid _
		&&& == != <= >= << >> && || ++ -> { } ( ) [ ] ; : , = < > + - & | ^ ~ ! . / x 0 200 8w1`)
	return l
}

// Spelt is the text of tokens, with where each begins, and where the text ends.
func Spelt(tokens []api.Token) (string, []int) {
	var b strings.Builder
	var at []int
	for i, x := range tokens {
		switch {
		case i%2 == 1:
			b.WriteString("\n")
		case i > 0:
			b.WriteString(" ")
		}
		at = append(at, b.Len())
		b.WriteString(x.S)
	}
	return b.String(), append(at, b.Len())
}

// A Swap is made in a row of tokens at a place: so many of them lack, and others stand there.
type Swap struct {
	At, Lack int
	More     []api.Token
}

func (x Swap) In(l []api.Token) []api.Token {
	out := append([]api.Token{}, l[:x.At]...)
	out = append(out, x.More...)
	return append(out, l[x.At+x.Lack:]...)
}

// EachSwap goes through all that can be done to one token of a row: it lacks, one of some others is in its place, or ahead of it.
func EachSwap(l, others []api.Token, do func(x Swap)) {
	for i := range l {
		do(Swap{At: i, Lack: 1})
		for _, o := range others {
			do(Swap{At: i, Lack: 1, More: []api.Token{o}})
			do(Swap{At: i, More: []api.Token{o}})
		}
	}
}

// Soup is a text by chance, of bytes of all kinds, or of tokens in no order. It is handed what tells a number from 0 on, below another one.
func Soup(intn func(n int) int) string {
	if intn(2) == 0 {
		b := make([]byte, intn(60))
		for i := range b {
			b[i] = byte(intn(256))
		}
		return string(b)
	}
	var l []api.Token
	more := Strays()
	for range intn(30) {
		l = append(l, more[intn(len(more))])
	}
	s, _ := Spelt(l)
	return s
}

// Follow tells of each token the place that it leads to, up to the first one that may not be where it is. Of each place the grammar has a line: its name, and by twos what may stand there (a token, <name>, <number> or <end>) and the place behind that. A text begins at the first line's place.
func Follow(grammar string, tokens []api.Token) []string {
	rows := rowsOf(grammar)
	var places []string
	at := 0
	for _, x := range tokens {
		to := leadsTo(rows[at], x)
		if to == "" {
			break
		}
		places = append(places, to)
		at = slices.IndexFunc(rows, func(row []string) bool { return row[0] == to })
		if at < 0 {
			break
		}
	}
	return places
}

func rowsOf(grammar string) [][]string {
	var rows [][]string
	for line := range strings.Lines(grammar) {
		if row := strings.Fields(line); len(row) > 0 {
			rows = append(rows, row)
		}
	}
	return rows
}

// leadsTo is the place behind a token; none, if it may not be there. A token that stands in the row itself goes ahead of its class.
func leadsTo(row []string, x api.Token) string {
	for _, what := range []string{x.S, classOf(x)} {
		for i := 1; i < len(row); i += 2 {
			if row[i] == what {
				return row[i+1]
			}
		}
	}
	return ""
}

func classOf(x api.Token) string {
	switch {
	case x.Kind == api.TokEnd:
		return "<end>"
	case x.Kind == api.TokNumber:
		return "<number>"
	case token.IsName(x.S):
		return "<name>"
	}
	return x.S
}
