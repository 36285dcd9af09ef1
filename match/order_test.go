package match_test

import (
	"math"
	"slices"
	"strings"
	"testing"

	"quillon/api"
	"quillon/match"
)

// P11.2

func TestP11_2WithinAndMeet(t *testing.T) {
	for _, c := range []struct {
		a, b         string
		within, meet bool
	}{
		{"1101", "1101", true, true}, {"1101", "110*", true, true}, {"1101", "****", true, true}, {"****", "****", true, true},
		{"110*", "1101", false, true}, {"****", "1101", false, true}, {"****", "***0", false, true},
		{"1101", "1100", false, false}, {"1101", "010*", false, false}, {"11**", "10**", false, false}, {"1***", "0***", false, false},
		{"11**", "1***", true, true}, {"11**", "*1**", true, true}, {"11**", "**11", false, true}, {"1**0", "1*00", false, true}, {"1**0", "0**0", false, false},
		{"1*0*", "*10*", false, true}, {"1*0*", "*11*", false, false}, // neither is within the other one
		{"0", "0", true, true}, {"0", "1", false, false}, {"0", "*", true, true}, {"*", "0", false, true},
	} {
		if got := match.Within(pat(c.a), pat(c.b), len(c.a)); got != c.within {
			t.Errorf("Within of %s, %s is %v", c.a, c.b, got)
		}
		if got := match.Meet(pat(c.a), pat(c.b), len(c.a)); got != c.meet {
			t.Errorf("Meet of %s, %s is %v", c.a, c.b, got)
		}
	}
}

// All two patterns of small widths, number by number.
func TestP11_2WithinAndMeetOfSmall(t *testing.T) {
	for w := 1; w <= 4; w++ {
		numbers := numbersOf(w)
		for _, a := range texts(w) {
			for _, b := range texts(w) {
				within, meet := true, false
				for _, n := range numbers {
					within = within && (!isWithin(n, a) || isWithin(n, b))
					meet = meet || isWithin(n, a) && isWithin(n, b)
				}
				if got := match.Within(pat(a), pat(b), w); got != within {
					t.Errorf("Within of %s, %s is %v", a, b, got)
				}
				if got := match.Meet(pat(a), pat(b), w); got != meet {
					t.Errorf("Meet of %s, %s is %v", a, b, got)
				}
			}
		}
	}
}

// Patterns of all widths, sign by sign. So that each answer is often so, both are made of one number: the second one of the first one, or beside it, and a few signs changed.
func TestP11_2WithinAndMeetByChance(t *testing.T) {
	m := newMaker(3)
	within, meet := map[bool]int{}, map[bool]int{}
	for n := range 40000 {
		bits := m.row(1+m.Intn(128), "01")
		a := m.opened(bits)
		b := m.opened([]string{a, bits}[n%2])
		b = m.changed(b, "01*")
		is, do := match.Within(pat(a), pat(b), len(bits)), match.Meet(pat(a), pat(b), len(bits))
		if is != isWithin(a, b) {
			t.Fatalf("Within of %s, %s is %v", a, b, is)
		}
		if do != doMeet(a, b) || match.Meet(pat(b), pat(a), len(bits)) != do {
			t.Fatalf("Meet of %s, %s is %v", a, b, do)
		}
		within[is]++
		meet[do]++
	}
	if within[true] < 4000 || within[false] < 4000 || meet[true] < 4000 || meet[false] < 4000 {
		t.Errorf("so many are within: %v; meet: %v", within, meet)
	}
}

// One bit alone, of each place of each width.
func TestP11_2WithinAndMeetOfEachBit(t *testing.T) {
	for _, w := range widths() {
		for at := range w {
			all := strings.Repeat("*", w)
			with := func(sign string) api.Pat { return pat(all[:at] + sign + all[at+1:]) }
			open, no, yes := with("*"), with("0"), with("1")
			for _, c := range []struct {
				a, b         api.Pat
				within, meet bool
			}{
				{open, open, true, true}, {no, open, true, true}, {yes, open, true, true}, {open, no, false, true}, {open, yes, false, true},
				{no, no, true, true}, {yes, yes, true, true}, {no, yes, false, false}, {yes, no, false, false},
			} {
				if match.Within(c.a, c.b, w) != c.within || match.Meet(c.a, c.b, w) != c.meet {
					t.Errorf("Within, Meet of %v, %v of %d bits are not %v, %v", c.a, c.b, w, c.within, c.meet)
				}
			}
		}
	}
}

// Of one that may not be neither is so: whatever the other one is, and whichever of the two it is.
func TestP11_2WithinAndMeetOfWhatMayNotBe(t *testing.T) {
	may := []api.Pat{of(0, 0), of(0, 15), of(15, 15), of(4, 6), of(0, 6), of(1, 1), of(8, 8)}
	not := []api.Pat{of(1, 0), of(5, 6), of(8, 6), of(15, 0), of(0, 16), of(16, 16), of(16, 15), of(16, 0), of(20, 22), {M: two(1, 0)}, {V: two(1, 0)}, {V: two(1, 0), M: two(1, 0)}, {V: two(half, half), M: two(half, half)}}
	for _, p := range may {
		if !match.Within(p, p, 4) || !match.Meet(p, p, 4) {
			t.Errorf("%v is not within itself, or does not meet itself", p)
		}
		for _, n := range not {
			wantNeither(t, p, n, 4)
			wantNeither(t, n, p, 4)
		}
	}
	for _, n := range not {
		for _, m := range not {
			wantNeither(t, n, m, 4)
		}
	}
	for _, w := range noWidths() {
		for _, a := range slices.Concat(may, not) {
			for _, b := range slices.Concat(may, not) {
				wantNeither(t, a, b, w)
			}
		}
	}
	// What may be of one width may not be of another one.
	if wide := of(16, 16); !match.Within(wide, of(0, 0), 5) || match.Within(wide, of(0, 0), 4) || !match.Meet(of(0, 0), wide, 5) || match.Meet(of(0, 0), wide, 4) {
		t.Error("a pattern of 5 bits is one of 4, or none of 5")
	}
}

func wantNeither(t *testing.T, a, b api.Pat, w int) {
	t.Helper()
	if match.Within(a, b, w) || match.Meet(a, b, w) {
		t.Errorf("of %v, %v of %d bits Within is %v, Meet %v", a, b, w, match.Within(a, b, w), match.Meet(a, b, w))
	}
}

// Within is an order, and what is within another one meets it.
func TestP11_2WithinIsAnOrder(t *testing.T) {
	for w := 1; w <= 3; w++ {
		all := texts(w)
		for _, a := range all {
			for _, b := range all {
				within := match.Within(pat(a), pat(b), w)
				if within && (a != b) == match.Within(pat(b), pat(a), w) {
					t.Errorf("%s is within %s, and that within it", a, b)
				}
				if a == b && !within {
					t.Errorf("%s is not within itself", a)
				}
				if within && !(match.Meet(pat(a), pat(b), w) && match.Meet(pat(b), pat(a), w)) {
					t.Errorf("%s is within %s, and does not meet it", a, b)
				}
				for _, c := range all {
					if within && match.Within(pat(b), pat(c), w) && !match.Within(pat(a), pat(c), w) {
						t.Errorf("%s is within %s, this within %s, that one not", a, b, c)
					}
				}
			}
		}
	}
}

func TestP11_2Length(t *testing.T) {
	for _, c := range []struct {
		p    api.Pat
		w    int
		want int
		is   bool
	}{
		{of(0, 0), 4, 0, true}, {of(8, 8), 4, 1, true}, {of(0, 8), 4, 1, true}, {of(12, 12), 4, 2, true}, {of(4, 12), 4, 2, true}, {of(12, 14), 4, 3, true}, {of(13, 15), 4, 4, true}, {of(0, 15), 4, 4, true},
		{of(4, 6), 4, 0, false}, {of(0, 1), 4, 0, false}, {of(0, 7), 4, 0, false}, {of(0, 9), 4, 0, false}, {of(0, 13), 4, 0, false}, {of(0, 11), 4, 0, false}, {of(0, 4), 4, 0, false}, // none
		{of(1, 0), 4, 0, false}, {of(15, 12), 4, 0, false}, {of(0, 31), 4, 0, false}, {of(0, 16), 4, 0, false}, {of(0, 24), 4, 0, false}, {of(16, 0), 4, 0, false}, {of(13, 14), 4, 0, false}, // may not be
		{of(12, 12), 5, 0, false}, {of(12, 12), 3, 0, false}, // of another width
		{of(0, 0), 1, 0, true}, {of(0, 1), 1, 1, true}, {of(1, 1), 1, 1, true}, {of(0, 2), 1, 0, false},
		{of(0, half), 64, 64, true}, {of(0, half), 65, 0, false}, {api.Pat{M: two(1, 0)}, 65, 1, true}, {api.Pat{M: two(1, 1<<63)}, 65, 2, true}, {api.Pat{M: two(1, half)}, 65, 65, true},
		{api.Pat{}, 128, 0, true}, {api.Pat{M: two(half, 0)}, 128, 64, true}, {api.Pat{M: two(half, 1<<63)}, 128, 65, true}, {api.Pat{M: two(half, half)}, 128, 128, true}, {api.Pat{M: two(half-1, half)}, 128, 0, false},
		{api.Pat{V: two(1<<63, 0), M: two(half, half-1)}, 128, 127, true}, {api.Pat{M: one(half)}, 128, 0, false}, {api.Pat{M: two(half, half)}, 127, 0, false},
	} {
		wantLength(t, c.p, c.w, c.want, c.is)
	}
	for _, w := range noWidths() {
		for _, p := range []api.Pat{{}, of(0, 1), of(1, 1), {M: two(half, half)}, {M: two(1<<63, 0)}} {
			wantLength(t, p, w, 0, false)
		}
	}
}

func wantLength(t *testing.T, p api.Pat, w, want int, is bool) {
	t.Helper()
	if got, ok := match.Length(p, w); got != want || ok != is {
		t.Errorf("Length of %v of %d bits is %d, %v, want %d, %v", p, w, got, ok, want, is)
	}
}

func TestP11_2LengthOfSmall(t *testing.T) {
	for w := 1; w <= 5; w++ {
		for _, s := range texts(w) {
			want, is := lengthOf(s)
			wantLength(t, pat(s), w, want, is)
		}
	}
}

// Each length of each width, and each of these with one bit of the mask turned.
func TestP11_2LengthOfEachPrefix(t *testing.T) {
	m := newMaker(4)
	for w := 1; w <= 128; w++ {
		bits := m.row(w, "01")
		for length := 0; length <= w; length++ {
			p, e := match.Prefix(pat(bits).V, length, w)
			if e != api.OK {
				t.Fatalf("Prefix of %d of %d bits tells %d", length, w, e)
			}
			wantLength(t, p, w, length, true)
			s := bits[:length] + strings.Repeat("*", w-length)
			at := m.Intn(w)
			sign := "*"
			if at >= length {
				sign = "0"
			}
			s = s[:at] + sign + s[at+1:]
			want, is := lengthOf(s)
			wantLength(t, pat(s), w, want, is)
		}
	}
}

func TestP11_2Ahead(t *testing.T) {
	entry := func(prio, length int) api.Entry { return api.Entry{Prio: prio, Len: length} }
	for _, c := range []struct {
		a, b api.Entry
		want bool
	}{
		{entry(2, 0), entry(1, 0), true}, {entry(1, 0), entry(2, 0), false}, {entry(1, 0), entry(1, 0), false},
		{entry(1, 5), entry(1, 4), true}, {entry(1, 4), entry(1, 5), false}, {entry(1, 5), entry(1, 5), false},
		{entry(2, 4), entry(1, 5), true}, {entry(1, 5), entry(2, 4), false}, // Prio first
		{entry(0, 128), entry(0, 0), true}, {entry(0, 0), entry(0, 128), false}, {entry(api.MaxPrio, 0), entry(0, 128), true},
		{entry(-1, 0), entry(-2, 0), true}, {entry(0, -1), entry(0, -2), true}, {entry(0, -1), entry(0, 0), false},
		{entry(math.MaxInt, 0), entry(math.MinInt, 0), true}, {entry(math.MinInt, 0), entry(math.MaxInt, 0), false}, // their difference has no room
		{entry(0, math.MaxInt), entry(0, math.MinInt), true}, {entry(0, math.MinInt), entry(0, math.MaxInt), false},
	} {
		if got := match.Ahead(c.a, c.b); got != c.want {
			t.Errorf("Ahead of %v, %v is %v", c.a, c.b, got)
		}
	}
}

// Whatever else two entries are, it is Prio and Len alone that tell.
func TestP11_2AheadByPrioAndLenAlone(t *testing.T) {
	rest := []api.Entry{{}, {Tab: 7}, {Tab: -1}, {Pats: []api.Pat{of(4, 6)}}, {Pats: []api.Pat{of(1, 1), of(1, 1)}}, {Run: api.Run{Act: 3, Args: []api.Num{one(9)}}}}
	for prio := range 3 {
		for length := range 3 {
			for otherPrio := range 3 {
				for otherLength := range 3 {
					want := 3*prio+length > 3*otherPrio+otherLength
					for _, a := range rest {
						for _, b := range rest {
							a.Prio, a.Len, b.Prio, b.Len = prio, length, otherPrio, otherLength
							if got := match.Ahead(a, b); got != want {
								t.Errorf("Ahead of %v, %v is %v", a, b, got)
							}
						}
					}
				}
			}
		}
	}
}
