package text_test

import (
	"math"
	"strings"
	"testing"

	"quillon/api"
	"quillon/text"
)

func place(line, col int) api.Place { return api.Place{Line: line, Col: col} }

// smallTexts are all texts of at most 6 bytes of a letter, a line end, and a byte that is no rune.
func smallTexts() []string {
	all := []string{""}
	for from := 0; len(all[from]) < 6; from++ {
		for _, b := range []string{"a", "\n", "\xe2"} {
			all = append(all, all[from]+b)
		}
	}
	return all
}

// placesOf are the places of all bytes of a text, and of the one behind the last one, told line by line.
func placesOf(s string) []api.Place {
	var l []api.Place
	for i, line := range strings.Split(s, "\n") {
		for j := range len(line) + 1 {
			l = append(l, place(i+1, j+1))
		}
	}
	return l
}

func TestP2_1Where(t *testing.T) {
	for _, c := range []struct {
		s    string
		at   int
		want api.Place
	}{
		{"a\nbc", 3, place(2, 2)},
		{"a\n", 1, place(1, 2)},
		{"a\n", 2, place(2, 1)},
		{"a\nbc", 0, place(1, 1)},
		{"a\nbc", 2, place(2, 1)},
		{"abc", 2, place(1, 3)},
		{"\n\n\n", 0, place(1, 1)},
		{"\n\n\n", 1, place(2, 1)},
		{"\n\n\n", 2, place(3, 1)},
		{"\n\n\n", 3, place(4, 1)},
		{"", 0, place(1, 1)},
		{"a\r\nb", 2, place(1, 3)},
		{"a\rb", 2, place(1, 3)},
		{"a\tb", 2, place(1, 3)},
		{"a\x00b", 2, place(1, 3)},
		{"\u00e9\u20acb", 5, place(1, 6)},   // columns are bytes, not runes
		{"a\u010ab\u2028c", 3, place(1, 4)}, // these runes are no byte 10
		{"a\u010ab\u2028c", 7, place(1, 8)},
	} {
		if got := text.Where(c.s, c.at); got != c.want {
			t.Errorf("Where(%q, %d) = %v, want %v", c.s, c.at, got, c.want)
		}
	}
}

func TestP2_1WhereOutside(t *testing.T) {
	for _, c := range []struct {
		s           string
		first, last api.Place
	}{
		{"", place(1, 1), place(1, 1)},
		{"a", place(1, 1), place(1, 2)},
		{"\n", place(1, 1), place(2, 1)},
		{"ab\ncde", place(1, 1), place(2, 4)},
		{"ab\ncde\n", place(1, 1), place(3, 1)},
	} {
		for _, at := range []int{-1, -2, -len(c.s), math.MinInt + 1, math.MinInt} {
			if got := text.Where(c.s, at); got != c.first {
				t.Errorf("Where(%q, %d) = %v, want %v", c.s, at, got, c.first)
			}
		}
		for _, more := range []int{0, 1, 2, 1 << 20, math.MaxInt - 10} {
			if got := text.Where(c.s, len(c.s)+more); got != c.last {
				t.Errorf("Where(%q, %d) = %v, want %v", c.s, len(c.s)+more, got, c.last)
			}
		}
	}
}

func TestP2_1WhereOfAllSmallTexts(t *testing.T) {
	for _, s := range smallTexts() {
		for at, want := range placesOf(s) {
			if got := text.Where(s, at); got != want {
				t.Fatalf("Where(%q, %d) = %v, want %v", s, at, got, want)
			}
		}
	}
}

func TestP2_1At(t *testing.T) {
	for _, c := range []struct {
		s    string
		p    api.Place
		want int
	}{
		{"a\nbc", place(2, 2), 3},
		{"a\n", place(1, 2), 1},
		{"a\n", place(2, 1), 2},
		{"a\nbc", place(1, 1), 0},
		{"a\nbc", place(2, 3), 4}, // the one behind the last one has a place, too
		{"", place(1, 1), 0},
		{"\n\n\n", place(3, 1), 2},
		{"a\r\nb", place(1, 3), 2},
		{"\u00e9\u20acb", place(1, 6), 5},
	} {
		if got, is := text.At(c.s, c.p); got != c.want || !is {
			t.Errorf("At(%q, %v) = %d, %v, want %d, true", c.s, c.p, got, is, c.want)
		}
	}
}

func TestP2_1AtNone(t *testing.T) {
	for _, c := range []struct {
		s string
		p api.Place
	}{
		{"a\nbc", place(0, 0)},
		{"a\nbc", place(0, 1)},
		{"a\nbc", place(1, 0)},
		{"a\nbc", place(2, 0)}, // else the line end ahead
		{"a\nbc", place(1, 3)}, // else the next line's first byte
		{"a\nbc", place(2, 4)},
		{"a\nbc", place(3, 1)},
		{"a\nbc\n", place(4, 1)},
		{"a\nbc\n", place(3, 2)},
		{"a\nbc", place(-1, 1)},
		{"a\nbc", place(1, -1)},
		{"a\nbc", place(2, -1)},
		{"", place(1, 2)},
		{"", place(2, 1)},
		{"", place(1, 0)},
	} {
		if got, is := text.At(c.s, c.p); got != 0 || is {
			t.Errorf("At(%q, %v) = %d, %v, want 0, false", c.s, c.p, got, is)
		}
	}
}

func TestP2_1AtOfAllSmallTexts(t *testing.T) {
	numbers := []int{math.MinInt, math.MinInt + 1, math.MinInt + 2, math.MaxInt - 1, math.MaxInt}
	for n := -8; n <= 9; n++ {
		numbers = append(numbers, n)
	}
	for _, s := range smallTexts() {
		byteAt := map[api.Place]int{}
		for at, p := range placesOf(s) {
			byteAt[p] = at
		}
		for _, line := range numbers {
			for _, col := range numbers {
				want, wanted := byteAt[place(line, col)]
				if got, is := text.At(s, place(line, col)); got != want || is != wanted {
					t.Fatalf("At(%q, %d %d) = %d, %v, want %d, %v", s, line, col, got, is, want, wanted)
				}
			}
		}
	}
}

// TestP2_1LongText: no text is too long for a place, also one that is for a program.
func TestP2_1LongText(t *testing.T) {
	const lines = api.MaxText/8 + 3
	s := strings.Repeat("seven b\n", lines)
	for _, c := range []struct {
		at int
		p  api.Place
	}{
		{0, place(1, 1)},
		{api.MaxText - 1, place(api.MaxText/8, 8)},
		{api.MaxText, place(api.MaxText/8+1, 1)},
		{len(s) - 1, place(lines, 8)},
		{len(s), place(lines+1, 1)},
	} {
		if got := text.Where(s, c.at); got != c.p {
			t.Errorf("Where(long, %d) = %v, want %v", c.at, got, c.p)
		}
		if got, is := text.At(s, c.p); got != c.at || !is {
			t.Errorf("At(long, %v) = %d, %v, want %d, true", c.p, got, is, c.at)
		}
	}
}

func TestP2_1Fault(t *testing.T) {
	for _, c := range []struct {
		s    string
		at   int
		e    api.Errno
		want api.Fault
	}{
		{"a\nbc", 3, api.ErrForm, api.Fault{E: api.ErrForm, At: place(2, 2)}},
		{"a\nbc", 0, api.ErrNil, api.Fault{E: api.ErrNil, At: place(1, 1)}},
		{"a\nbc", -7, api.ErrLong, api.Fault{E: api.ErrLong, At: place(1, 1)}},
		{"a\nbc", 4, api.ErrShort, api.Fault{E: api.ErrShort, At: place(2, 3)}},
		{"a\nbc", math.MaxInt, api.ErrSum, api.Fault{E: api.ErrSum, At: place(2, 3)}},
		{"a\nbc", math.MinInt, api.ErrSum, api.Fault{E: api.ErrSum, At: place(1, 1)}},
		{"", 0, api.ErrArg, api.Fault{E: api.ErrArg, At: place(1, 1)}},
		{"a\nbc", 2, 16, api.Fault{E: 16, At: place(2, 1)}},
		{"a\nbc", 2, -1, api.Fault{E: -1, At: place(2, 1)}},
		{"a\nbc", 3, api.OK, api.Fault{}},
		{"a\nbc", -1, api.OK, api.Fault{}},
		{"", 0, api.OK, api.Fault{}},
	} {
		if got := text.Fault(c.s, c.at, c.e); got != c.want {
			t.Errorf("Fault(%q, %d, %d) = %v, want %v", c.s, c.at, c.e, got, c.want)
		}
	}
}

func TestP2_2Word(t *testing.T) {
	for e, want := range map[api.Errno]string{
		api.OK:       "ok",
		api.ErrNil:   "nil",
		api.ErrArg:   "arg",
		api.ErrLong:  "long",
		api.ErrForm:  "form",
		api.ErrOver:  "over",
		api.ErrDeep:  "deep",
		api.ErrNone:  "none",
		api.ErrTwice: "twice",
		api.ErrKind:  "kind",
		api.ErrWidth: "width",
		api.ErrCycle: "cycle",
		api.ErrFull:  "full",
		api.ErrShort: "short",
		api.ErrState: "state",
		api.ErrSum:   "sum",
		-1:           "other",
		-16:          "other",
		16:           "other",
		17:           "other",
		256:          "other",
		1 << 32:      "other",
		math.MaxInt:  "other",
		math.MinInt:  "other",
	} {
		if got := text.Word(e); got != want {
			t.Errorf("Word(%d) = %q, want %q", e, got, want)
		}
	}
}

func TestP2_2Say(t *testing.T) {
	for _, c := range []struct {
		f    api.Fault
		want string
	}{
		{api.Fault{}, "ok"},
		{api.Fault{At: place(3, 4)}, "ok"},
		{api.Fault{E: api.ErrForm, At: place(2, 13)}, "line 2 column 13: form"},
		{api.Fault{E: api.ErrNil, At: place(1, 1)}, "line 1 column 1: nil"},
		{api.Fault{E: api.ErrSum, At: place(8195, 65537)}, "line 8195 column 65537: sum"},
		{api.Fault{E: 16, At: place(10, 9)}, "line 10 column 9: other"},
		{api.Fault{E: -1, At: place(10, 9)}, "line 10 column 9: other"},
		{api.Fault{E: api.ErrCycle}, "line 0 column 0: cycle"},
		{api.Fault{E: api.ErrOver, At: place(-1, -20)}, "line -1 column -20: over"},
		{api.Fault{E: api.ErrOver, At: place(math.MaxInt64, math.MinInt64)}, "line 9223372036854775807 column -9223372036854775808: over"},
	} {
		if got := text.Say(c.f); got != c.want {
			t.Errorf("Say(%v) = %q, want %q", c.f, got, c.want)
		}
	}
}
