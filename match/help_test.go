package match_test

import (
	"math"
	"math/rand"
	"strconv"
	"strings"
	"testing"

	"quillon/api"
	"quillon/num"
)

const half = math.MaxUint64

func one(lo uint64) api.Num { return api.Num{Lo: lo} }

func two(hi, lo uint64) api.Num { return api.Num{Hi: hi, Lo: lo} }

// of is a pattern as it stands, whether it may be or not.
func of(v, m uint64) api.Pat { return api.Pat{V: one(v), M: one(m)} }

// pat is the pattern of a text that has a sign for each bit, the highest one first: 0, 1, or * for any one. So 4 bits of which the highest one is 1 are 1***.
func pat(s string) api.Pat {
	p := api.Pat{}
	for _, r := range s {
		p.V, p.M = num.Add(p.V, p.V, 128), num.Add(p.M, p.M, 128)
		switch r {
		case '1':
			p.V.Lo++
			p.M.Lo++
		case '0':
			p.M.Lo++
		}
	}
	return p
}

// bitsOf is a number's text of so many signs.
func bitsOf(n uint64, w int) string {
	s := strconv.FormatUint(n, 2)
	return strings.Repeat("0", w-len(s)) + s
}

// texts are those of all patterns of a width.
func texts(w int) []string {
	l := []string{""}
	for range w {
		var longer []string
		for _, s := range l {
			longer = append(longer, s+"0", s+"1", s+"*")
		}
		l = longer
	}
	return l
}

// Of two texts of one width: whether a number's, or a pattern's, is within another one, sign by sign.
func isWithin(a, b string) bool {
	for i := range a {
		if b[i] != '*' && a[i] != b[i] {
			return false
		}
	}
	return true
}

func doMeet(a, b string) bool {
	for i := range a {
		if a[i] != '*' && b[i] != '*' && a[i] != b[i] {
			return false
		}
	}
	return true
}

// lengthOf is how many signs are ahead of the first *, if behind that there are no others.
func lengthOf(s string) (int, bool) {
	ahead := strings.TrimRight(s, "*")
	if strings.Contains(ahead, "*") {
		return 0, false
	}
	return len(ahead), true
}

// numbersOf are all numbers of a width.
func numbersOf(w int) []string {
	var l []string
	for n := range uint64(1) << w {
		l = append(l, bitsOf(n, w))
	}
	return l
}

// widths are those that may be and are at an edge, and some between.
func widths() []int {
	return []int{1, 2, 3, 7, 8, 9, 31, 32, 33, 63, 64, 65, 66, 100, 126, 127, 128}
}

// noWidths are those that no pattern is of.
func noWidths() []int {
	return []int{math.MinInt, math.MinInt + 1, -129, -128, -1, 0, 129, 130, 192, 256, math.MaxInt - 1, math.MaxInt}
}

// A maker makes texts by chance, always the same ones.
type maker struct{ *rand.Rand }

func newMaker(seed int64) maker { return maker{rand.New(rand.NewSource(seed))} }

// row is a row of signs.
func (m maker) row(w int, signs string) string {
	b := make([]byte, w)
	for i := range b {
		b[i] = signs[m.Intn(len(signs))]
	}
	return string(b)
}

// changed is a text of which a few signs are others.
func (m maker) changed(s, signs string) string {
	b := []byte(s)
	for range m.Intn(3) {
		b[m.Intn(len(b))] = signs[m.Intn(len(signs))]
	}
	return string(b)
}

// opened is a text of which about a half of the signs are *.
func (m maker) opened(s string) string {
	b := []byte(s)
	for i := range b {
		if m.Intn(2) == 0 {
			b[i] = '*'
		}
	}
	return string(b)
}

func wantPat(t *testing.T, call string, got api.Pat, e api.Errno, want api.Pat, wantErr api.Errno) {
	t.Helper()
	if got != want || e != wantErr {
		t.Errorf("%s is %v, %d, want %v, %d", call, got, e, want, wantErr)
	}
}
