package lower_test

import (
	"math"
	"math/rand"
	"reflect"
	"testing"

	"quillon/api"
	"quillon/lower"
	"quillon/num"
)

func wantRun(t *testing.T, p api.Prog, want bool, listed []int, act int, args ...api.Num) {
	t.Helper()
	run := api.Run{Act: act, Args: args}
	if got := lower.MayRun(p, listed, run); got != want || reckonedRun(p, listed, run) != want {
		t.Errorf("MayRun of %v, listed %v, is %v, want %v", run, listed, got, want)
	}
}

func TestP10_3MayRun(t *testing.T) {
	// The parameters of its actions are of 9 and 8 bits, of 1 bit, and none.
	p := lowered(t, typed(t))
	all, n := []int{0, 1, 2}, num.Of
	for _, listed := range [][]int{all, {0}, {2, 0}, {0, 0}, {7, -1, 0}} {
		wantRun(t, p, true, listed, 0, n(0), n(0))
		wantRun(t, p, true, listed, 0, n(511), n(255))
		wantRun(t, p, false, listed, 0)
		wantRun(t, p, false, listed, 0, n(1))
		wantRun(t, p, false, listed, 0, n(1), n(1), n(1))
		wantRun(t, p, false, listed, 0, n(512), n(255))
		wantRun(t, p, false, listed, 0, n(511), n(256))
		wantRun(t, p, false, listed, 0, n(256), n(511))
		wantRun(t, p, false, listed, 0, api.Num{Hi: 1}, n(1))
		wantRun(t, p, false, listed, 0, n(1), api.Num{Hi: 1 << 63})
	}
	wantRun(t, p, true, all, 1, n(0))
	wantRun(t, p, true, all, 1, n(1))
	wantRun(t, p, false, all, 1, n(2))
	wantRun(t, p, false, all, 1)
	wantRun(t, p, false, all, 1, n(0), n(0))
	wantRun(t, p, true, all, 2)
	wantRun(t, p, true, all, 2, []api.Num{}...)
	wantRun(t, p, false, all, 2, n(0))
	// Not listed, or not there.
	wantRun(t, p, false, []int{1, 2}, 0, n(0), n(0))
	wantRun(t, p, false, nil, 2)
	wantRun(t, p, false, []int{}, 2)
	wantRun(t, p, false, []int{0, 1}, 2)
	for _, act := range []int{3, -1, 16, math.MaxInt, math.MinInt} {
		wantRun(t, p, false, all, act)
		wantRun(t, p, false, []int{act}, act)
		wantRun(t, p, false, []int{2, act}, act, n(0))
		wantRun(t, api.Prog{}, false, []int{act}, act)
	}
	wantRun(t, api.Prog{}, false, []int{0}, 0)
}

func TestP10_3MayRunOfAllWidths(t *testing.T) {
	for w := 1; w <= 128; w++ {
		p := api.Prog{Acts: []api.Act{{Params: []int{128, w}}}}
		top := num.Shl(num.Of(1), w-1, 128)
		wantRun(t, p, true, []int{0}, 0, num.Mask(128), num.Mask(w))
		wantRun(t, p, true, []int{0}, 0, num.Of(0), top)
		wantRun(t, p, w == 128, []int{0}, 0, num.Of(0), num.Or(num.Shl(top, 1, 128), num.Of(1)))
		wantRun(t, p, w == 128, []int{0}, 0, num.Of(0), num.Mask(128))
	}
	// Widths that may not be.
	for _, w := range []int{0, -1, math.MinInt} {
		p := api.Prog{Acts: []api.Act{{Params: []int{w}}}}
		wantRun(t, p, true, []int{0}, 0, num.Of(0))
		wantRun(t, p, false, []int{0}, 0, num.Of(1))
	}
}

func TestP10_3MayRunOfAny(t *testing.T) {
	r := rand.New(rand.NewSource(11))
	p := lowered(t, typed(t))
	told := map[bool]int{}
	for range 20000 {
		var listed []int
		for range r.Intn(4) {
			listed = append(listed, r.Intn(5)-1)
		}
		run := api.Run{Act: r.Intn(5) - 1}
		for range r.Intn(4) {
			run.Args = append(run.Args, num.Shl(num.Of(1), r.Intn(11), 1+r.Intn(12)))
		}
		want := reckonedRun(p, listed, run)
		wantRun(t, p, want, listed, run.Act, run.Args...)
		told[want]++
	}
	if told[true] < 500 || told[false] < 5000 {
		t.Errorf("told are %v", told)
	}
}

func TestP10_3NothingChanges(t *testing.T) {
	p, listed, run := lowered(t, typed(t)), []int{2, 0}, api.Run{Act: 0, Args: []api.Num{num.Of(1), num.Of(2)}}
	c := code(t, "param9 port9 add9 slice3(2) neg3")
	lower.MayRun(p, listed, run)
	lower.Width(p, 0, c)
	if toldProg(p) != typedLowered || !reflect.DeepEqual(listed, []int{2, 0}) || !reflect.DeepEqual(run, api.Run{Act: 0, Args: []api.Num{num.Of(1), num.Of(2)}}) || told(c) != "param9 port9 add9 slice3(2,0) neg3" {
		t.Error("what was handed in is changed")
	}
}
