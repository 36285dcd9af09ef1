package lower_test

import (
	"math"
	"reflect"
	"slices"
	"strings"
	"testing"

	"quillon/api"
	"quillon/lower"
	"quillon/num"
)

// A turn changes a lowered program.
type turn struct {
	what   string
	change func(p *api.Prog)
}

// wantTurns wants of what Typed is lowered to, changed, whether it may be.
func wantTurns(t *testing.T, want bool, turns []turn) {
	t.Helper()
	for _, x := range turns {
		p := lowered(t, typed(t))
		x.change(&p)
		before := toldProg(p)
		if lower.May(p) != want || reckonedMay(p) != want {
			t.Errorf("%s: May is %v, reckoned %v, want %v", x.what, lower.May(p), reckonedMay(p), want)
		}
		if toldProg(p) != before {
			t.Errorf("%s: May changes it", x.what)
		}
	}
}

// named gives a program as many names as it asks for.
func named(p *api.Prog) {
	p.Names = api.Names{Headers: make([]string, len(p.Heads)), Metas: make([]string, len(p.Metas)), Actions: make([]string, len(p.Acts)), Tables: make([]string, len(p.Tabs))}
	for _, h := range p.Heads {
		p.Names.Fields = append(p.Names.Fields, make([]string, len(h)))
	}
}

func fill[T any](n int, x T) []T { return slices.Repeat([]T{x}, n) }

func TestP10_3MayOfWidths(t *testing.T) {
	heads := func(l ...[]int) func(p *api.Prog) {
		return func(p *api.Prog) { p.Heads = append(p.Heads, l...); named(p) }
	}
	metas := func(l ...int) func(p *api.Prog) {
		return func(p *api.Prog) { p.Metas = append(p.Metas, l...); named(p) }
	}
	wantTurns(t, true, []turn{
		{"nothing else", func(p *api.Prog) {}},
		{"eight headers", heads(fill(6, []int{8})...)},
		{"256 bits", heads([]int{128, 127, 1})},
		{"16 fields", heads(fill(16, 16))},
		{"fields of a bit", heads(fill(8, 1))},
		{"16 metadata", metas(fill(11, 128)...)},
		{"parameters", func(p *api.Prog) { p.Acts[2].Params = []int{1, 128, 1, 1, 1, 1, 1, 9} }},
	})
	wantTurns(t, false, []turn{
		{"nothing at all", func(p *api.Prog) { *p = api.Prog{} }},
		{"nine headers", heads(fill(7, []int{8})...)},
		{"no fields", heads([]int{})},
		{"no list of fields", heads(nil)},
		{"17 fields", heads(append(fill(15, 8), 4, 4))},
		{"no width", heads([]int{8, 0})},
		{"a width below 0", heads([]int{16, -8})},
		{"a width above 128", heads([]int{129, 7})},
		{"a width of all ints", heads([]int{math.MaxInt, math.MaxInt, 10})},
		{"7 bits", heads([]int{7})},
		{"257 bits", heads([]int{128, 128, 1})},
		{"264 bits", heads([]int{128, 128, 8})},
		{"17 metadata", metas(fill(12, 8)...)},
		{"metadata of no bits", metas(0)},
		{"metadata of too many bits", metas(129)},
		{"metadata below 0", metas(-1)},
		{"a parameter of no bits", func(p *api.Prog) { p.Acts[2].Params = []int{0} }},
		{"a parameter of too many bits", func(p *api.Prog) { p.Acts[2].Params = []int{129} }},
		{"nine parameters", func(p *api.Prog) { p.Acts[2].Params = fill(9, 8) }},
	})
}

func TestP10_3MayOfSteps(t *testing.T) {
	port := code(t, "port9")
	step := func(s api.Step) func(p *api.Prog) {
		return func(p *api.Prog) { p.Steps = append(p.Steps, s) }
	}
	keyed := func(keys []api.Code, l ...api.Branch) func(p *api.Prog) {
		return step(api.Step{Keys: keys, Branches: l})
	}
	branch := func(to int, l ...api.Pat) api.Branch { return api.Branch{Pats: l, To: to} }
	pat := func(v, m uint64) api.Pat { return api.Pat{V: num.Of(v), M: num.Of(m)} }
	any9 := branch(-1, pat(0, 0))
	wantTurns(t, true, []turn{
		{"to the others", step(api.Step{To: 0})},
		{"to accept", step(api.Step{To: -1})},
		{"to reject", step(api.Step{To: -2})},
		{"16 steps", func(p *api.Prog) { p.Steps = append(p.Steps, fill(13, api.Step{To: 2})...) }},
		{"one step", func(p *api.Prog) { p.Steps = []api.Step{{To: -2}} }},
		{"8 takes", step(api.Step{Takes: []int{0, 1, 0, 1, 1, 1, 0, 0}, To: 1})},
		{"4 keys, 16 branches", keyed(fill(4, port), fill(16, branch(1, pat(1, 1), pat(0, 0), pat(511, 511), pat(256, 384)))...)},
		{"branches to each", keyed(fill(1, port), branch(0, pat(0, 0)), branch(1, pat(0, 0)), branch(2, pat(0, 0)), branch(-1, pat(0, 0)), branch(-2, pat(0, 0)))},
		{"backwards, without a cycle", func(p *api.Prog) {
			p.Steps = []api.Step{{To: -1}, {To: 0}, {To: 1}, {To: 0}}
		}},
		{"a key of a truth", keyed([]api.Code{code(t, "valid1")}, branch(-1, pat(1, 1)))},
		{"a key of 2^16 nodes", keyed([]api.Code{append(code(t, "port9"), fill(api.MaxCode-1, code(t, "not9")[0])...)}, any9)},
	})
	wantTurns(t, false, []turn{
		{"no steps", func(p *api.Prog) { p.Steps = nil }},
		{"an empty list of steps", func(p *api.Prog) { p.Steps = []api.Step{} }},
		{"17 steps", func(p *api.Prog) { p.Steps = append(p.Steps, fill(14, api.Step{To: 2})...) }},
		{"9 takes", step(api.Step{Takes: fill(9, 0), To: -1})},
		{"a header that there is not", step(api.Step{Takes: []int{2}, To: -1})},
		{"a header below 0", step(api.Step{Takes: []int{0, -1}, To: -1})},
		{"to what there is not", step(api.Step{To: 4})},
		{"to below reject", step(api.Step{To: -3})},
		{"to itself", step(api.Step{To: 3})},
		{"branches without keys", step(api.Step{Branches: []api.Branch{{To: -1}}, To: -1})},
		{"keys without branches", keyed(fill(1, port))},
		{"5 keys", keyed(fill(5, port), branch(-1, fill(5, pat(0, 0))...))},
		{"17 branches", keyed(fill(1, port), fill(17, any9)...)},
		{"a To beside keys", step(api.Step{Keys: fill(1, port), Branches: []api.Branch{any9}, To: -1})},
		{"a To of a step beside keys", step(api.Step{Keys: fill(1, port), Branches: []api.Branch{any9}, To: 1})},
		{"too few patterns", keyed(fill(2, port), any9)},
		{"too many patterns", keyed(fill(1, port), branch(-1, pat(0, 0), pat(0, 0)))},
		{"no patterns", keyed(fill(1, port), branch(-1))},
		{"V does not fit", keyed(fill(1, port), branch(-1, pat(512, 512)))},
		{"M does not fit", keyed(fill(1, port), branch(-1, pat(0, 512)))},
		{"V outside M", keyed(fill(1, port), branch(-1, pat(3, 1)))},
		{"V outside of another M", keyed([]api.Code{port, code(t, "field128(1,1)")}, branch(-1, pat(0, 0), api.Pat{V: api.Num{Hi: 1 << 63}, M: api.Num{Hi: 1}}))},
		{"a later pattern", keyed(fill(2, port), any9, branch(-1, pat(0, 0), pat(1, 0)))},
		{"a pattern of another key", keyed([]api.Code{code(t, "field8"), port}, branch(-1, pat(256, 256), pat(1, 1)))},
		{"a branch to what there is not", keyed(fill(1, port), any9, branch(4, pat(0, 0)))},
		{"a branch to below reject", keyed(fill(1, port), any9, branch(-3, pat(0, 0)))},
		{"a branch to itself", keyed(fill(1, port), any9, branch(3, pat(0, 0)))},
		{"a key without a width", keyed([]api.Code{code(t, "port9 port9")}, any9)},
		{"a key without nodes", keyed([]api.Code{nil}, branch(-1, pat(0, 0)))},
		{"a key of a parameter", keyed([]api.Code{code(t, "param9")}, any9)},
		{"a key of too many nodes", keyed([]api.Code{append(port, fill(api.MaxCode, code(t, "not9")[0])...)}, any9)},
		{"a cycle of two", func(p *api.Prog) { p.Steps = append(p.Steps, api.Step{To: 4}, api.Step{To: 3}) }},
		{"a cycle of all", func(p *api.Prog) { p.Steps[2].To = 0 }},
		{"a cycle by a branch", func(p *api.Prog) { p.Steps[1].Branches[1].To = 0 }},
		{"a cycle of 16", func(p *api.Prog) {
			p.Steps = nil
			for n := range 16 {
				p.Steps = append(p.Steps, api.Step{To: (n + 15) % 16})
			}
		}},
	})
}

func TestP10_3MayOfActionsAndTables(t *testing.T) {
	port := code(t, "port9")
	tab := func(x api.Tab) func(p *api.Prog) {
		return func(p *api.Prog) { p.Tabs = append(p.Tabs, x); named(p) }
	}
	with := func(change func(x *api.Tab)) func(p *api.Prog) {
		x := api.Tab{Keys: fill(2, port), Kinds: []uint8{3, 1}, Acts: []int{2, 0}, Default: api.Run{Act: 0, Args: []api.Num{num.Of(511), num.Of(255)}}}
		change(&x)
		return tab(x)
	}
	wantTurns(t, true, []turn{
		{"16 actions", func(p *api.Prog) { p.Acts = append(p.Acts, make([]api.Act, 13)...); named(p) }},
		{"8 tables", func(p *api.Prog) { p.Tabs = append(p.Tabs, fill(6, p.Tabs[0])...); named(p) }},
		{"another table", with(func(x *api.Tab) {})},
		{"4 keys", with(func(x *api.Tab) { x.Keys, x.Kinds = fill(4, port), []uint8{1, 3, 3, 2} })},
		{"all actions", with(func(x *api.Tab) { x.Acts = []int{2, 1, 0} })},
		{"another default", with(func(x *api.Tab) { x.Default = api.Run{Act: 2} })},
		{"16 listed actions", func(p *api.Prog) {
			p.Acts = append(p.Acts, make([]api.Act, 13)...)
			p.Tabs[1].Acts = []int{15, 14, 13, 12, 11, 10, 9, 8, 7, 6, 5, 4, 3, 2, 1, 0}
			named(p)
		}},
	})
	wantTurns(t, false, []turn{
		{"17 actions", func(p *api.Prog) { p.Acts = append(p.Acts, make([]api.Act, 14)...); named(p) }},
		{"9 tables", func(p *api.Prog) { p.Tabs = append(p.Tabs, fill(7, p.Tabs[0])...); named(p) }},
		{"no keys", with(func(x *api.Tab) { x.Keys, x.Kinds = nil, nil })},
		{"5 keys", with(func(x *api.Tab) { x.Keys, x.Kinds = fill(5, port), fill(5, uint8(1)) })},
		{"a key without a width", with(func(x *api.Tab) { x.Keys[1] = code(t, "port9 port9") })},
		{"a key without nodes", with(func(x *api.Tab) { x.Keys[0] = nil })},
		{"a key of a parameter", with(func(x *api.Tab) { x.Keys[0] = code(t, "param9") })},
		{"too few kinds", with(func(x *api.Tab) { x.Kinds = x.Kinds[:1] })},
		{"too many kinds", with(func(x *api.Tab) { x.Kinds = append(x.Kinds, 1) })},
		{"no kind", with(func(x *api.Tab) { x.Kinds[1] = 0 })},
		{"a kind that there is not", with(func(x *api.Tab) { x.Kinds[0] = 4 })},
		{"two prefixes", with(func(x *api.Tab) { x.Kinds = []uint8{2, 2} })},
		{"two prefixes beside others", with(func(x *api.Tab) { x.Keys, x.Kinds = fill(4, port), []uint8{2, 1, 3, 2} })},
		{"no listed actions", with(func(x *api.Tab) { x.Acts = nil })},
		{"a listed action that there is not", with(func(x *api.Tab) { x.Acts = []int{0, 3} })},
		{"a listed action below 0", with(func(x *api.Tab) { x.Acts = []int{0, -1} })},
		{"one listed twice", with(func(x *api.Tab) { x.Acts = []int{0, 2, 0} })},
		{"17 listed actions", with(func(x *api.Tab) { x.Acts = fill(17, 0) })},
		{"a default that is not listed", with(func(x *api.Tab) { x.Default = api.Run{Act: 1, Args: []api.Num{num.Of(1)}} })},
		{"a default that is not there", with(func(x *api.Tab) { x.Default = api.Run{Act: 3} })},
		{"too few arguments", with(func(x *api.Tab) { x.Default.Args = x.Default.Args[:1] })},
		{"too many arguments", with(func(x *api.Tab) { x.Default.Args = append(x.Default.Args, num.Of(0)) })},
		{"an argument that does not fit", with(func(x *api.Tab) { x.Default.Args[0] = num.Of(512) })},
		{"another argument that does not fit", with(func(x *api.Tab) { x.Default.Args[1] = api.Num{Hi: 1} })},
	})
}

func TestP10_3MayOfEmitsAndNames(t *testing.T) {
	wantTurns(t, true, []turn{
		{"no emits", func(p *api.Prog) { p.Emit = nil }},
		{"an empty list of emits", func(p *api.Prog) { p.Emit = []int{} }},
		{"one emit", func(p *api.Prog) { p.Emit = []int{1} }},
		{"8 emits", func(p *api.Prog) {
			p.Heads = append(p.Heads, fill(6, []int{8})...)
			p.Emit = []int{7, 0, 6, 1, 5, 2, 4, 3}
			named(p)
		}},
		{"names of nothing", named},
		{"the same names", func(p *api.Prog) { p.Names.Headers[0], p.Names.Fields[0][1], p.Names.Actions[1] = "i", "f", "a" }},
		{"names that are none", func(p *api.Prog) { p.Names.Tables[0], p.Names.Metas[1] = "if", strings.Repeat(".", 99) }},
		{"all lists that are empty", func(p *api.Prog) {
			*p = api.Prog{Heads: [][]int{}, Metas: []int{}, Steps: []api.Step{{Takes: []int{}, Keys: []api.Code{}, Branches: []api.Branch{}, To: -1}}, Acts: []api.Act{}, Tabs: []api.Tab{}, Control: []api.Inst{}, Emit: []int{}}
		}},
	})
	wantTurns(t, false, []turn{
		{"an emit that there is not", func(p *api.Prog) { p.Emit = []int{0, 2} }},
		{"an emit below 0", func(p *api.Prog) { p.Emit = []int{-1} }},
		{"one emitted twice", func(p *api.Prog) { p.Emit = []int{1, 1} }},
		{"one emitted twice beside another", func(p *api.Prog) { p.Emit = []int{1, 0, 1} }},
		{"no names", func(p *api.Prog) { p.Names = api.Names{} }},
		{"a header's name too few", func(p *api.Prog) { p.Names.Headers = p.Names.Headers[:1] }},
		{"a header's name too many", func(p *api.Prog) { p.Names.Headers = append(p.Names.Headers, "z") }},
		{"a header's fields too few", func(p *api.Prog) { p.Names.Fields = p.Names.Fields[:1] }},
		{"a header's fields too many", func(p *api.Prog) { p.Names.Fields = append(p.Names.Fields, nil) }},
		{"a field's name too few", func(p *api.Prog) { p.Names.Fields[0] = p.Names.Fields[0][:2] }},
		{"a field's name too many", func(p *api.Prog) { p.Names.Fields[1] = append(p.Names.Fields[1], "z") }},
		{"fields' names exchanged", func(p *api.Prog) { slices.Reverse(p.Names.Fields) }},
		{"a metadata's name too few", func(p *api.Prog) { p.Names.Metas = p.Names.Metas[:4] }},
		{"a metadata's name too many", func(p *api.Prog) { p.Names.Metas = append(p.Names.Metas, "z") }},
		{"an action's name too few", func(p *api.Prog) { p.Names.Actions = p.Names.Actions[1:] }},
		{"an action's name too many", func(p *api.Prog) { p.Names.Actions = append(p.Names.Actions, "z") }},
		{"a table's name too few", func(p *api.Prog) { p.Names.Tables = nil }},
		{"a table's name too many", func(p *api.Prog) { p.Names.Tables = append(p.Names.Tables, "") }},
	})
}

// wantBlocks wants whether instructions may be in the control, and in the action a.
func wantBlocks(t *testing.T, inControl, inAction bool, l ...api.Inst) {
	t.Helper()
	for _, x := range []struct {
		what string
		at   func(p *api.Prog) *[]api.Inst
		want bool
	}{
		{"the control", func(p *api.Prog) *[]api.Inst { return &p.Control }, inControl},
		{"an action", func(p *api.Prog) *[]api.Inst { return &p.Acts[0].Body }, inAction},
	} {
		p := lowered(t, typed(t))
		*x.at(&p) = l
		if got := lower.May(p); got != x.want || reckonedMay(p) != x.want {
			t.Errorf("in %s May is %v, reckoned %v, of %.300s", x.what, got, reckonedMay(p), toldInsts(l))
		}
	}
}

func TestP10_3MayOfInstructions(t *testing.T) {
	port, bit, field := code(t, "port9"), code(t, "valid1"), code(t, "field8")
	for _, x := range []api.Inst{
		{Kind: api.InSet, E: field}, {Kind: api.InSet, B: 1, E: code(t, "const3=7")}, {Kind: api.InSet, A: 1, B: 1, E: code(t, "field128(1,1)")},
		{Kind: api.InMeta, E: code(t, "meta4")}, {Kind: api.InMeta, A: 1, E: port}, {Kind: api.InMeta, A: 4, E: code(t, "const2")},
		{Kind: api.InDrop}, {Kind: api.InForward, E: port}, {Kind: api.InValid}, {Kind: api.InValid, B: 1}, {Kind: api.InValid, A: 1, B: 1}, {Kind: api.InValid, A: 1},
		{Kind: api.InIf, E: bit, To: 1}, {Kind: api.InIf, E: code(t, "meta1(2)"), To: 1}, {Kind: api.InJump, To: 1},
	} {
		wantBlocks(t, true, true, x)
	}
	wantBlocks(t, true, false, api.Inst{Kind: api.InApply})
	wantBlocks(t, true, false, api.Inst{Kind: api.InApply, A: 1})
	wantBlocks(t, true, false, api.Inst{Kind: api.InDrop}, api.Inst{Kind: api.InApply, A: 1})
	wantBlocks(t, false, true, api.Inst{Kind: api.InMeta, A: 1, E: code(t, "param9")})
	wantBlocks(t, false, true, api.Inst{Kind: api.InIf, E: code(t, "param8(1) const8=3 eq1"), To: 1})
	wantBlocks(t, true, true)
	for _, x := range []api.Inst{
		{}, {Kind: 9}, {Kind: 255}, {To: 1}, {Kind: 9, To: 1},
		// What is not there.
		{Kind: api.InSet, A: 2, E: field}, {Kind: api.InSet, A: -1, E: field}, {Kind: api.InSet, B: 3, E: field}, {Kind: api.InSet, B: -1, E: field}, {Kind: api.InSet, A: 1, B: 2, E: field}, {Kind: api.InSet, A: math.MaxInt, B: math.MinInt, E: field},
		{Kind: api.InMeta, A: 5, E: code(t, "meta4")}, {Kind: api.InMeta, A: -1, E: code(t, "meta4")}, {Kind: api.InMeta, A: 5}, {Kind: api.InSet, A: 2},
		{Kind: api.InApply, A: 2}, {Kind: api.InApply, A: -1}, {Kind: api.InValid, A: 2}, {Kind: api.InValid, A: -1, B: 1}, {Kind: api.InValid, B: 2}, {Kind: api.InValid, B: -1},
		// Of another width, or none.
		{Kind: api.InSet, E: port}, {Kind: api.InSet, B: 1, E: field}, {Kind: api.InSet}, {Kind: api.InSet, E: code(t, "field8 field8")}, {Kind: api.InSet, E: code(t, "field7")},
		{Kind: api.InMeta, E: port}, {Kind: api.InMeta, A: 1, E: field}, {Kind: api.InMeta}, {Kind: api.InMeta, A: 1, E: code(t, "port9 port9")},
		{Kind: api.InForward, E: field}, {Kind: api.InForward}, {Kind: api.InForward, E: code(t, "const10")}, {Kind: api.InForward, E: code(t, "param9(1)")},
		{Kind: api.InIf, E: port, To: 1}, {Kind: api.InIf, To: 1}, {Kind: api.InIf, E: code(t, "meta2(4)"), To: 1}, {Kind: api.InIf, E: code(t, "not1"), To: 1},
		// What is not said of a kind.
		{Kind: api.InSet, E: field, To: 1}, {Kind: api.InMeta, B: 1, E: code(t, "meta4")}, {Kind: api.InMeta, E: code(t, "meta4"), To: 1},
		{Kind: api.InApply, B: 1}, {Kind: api.InApply, E: bit}, {Kind: api.InApply, To: 1},
		{Kind: api.InDrop, A: 1}, {Kind: api.InDrop, B: 1}, {Kind: api.InDrop, E: bit}, {Kind: api.InDrop, To: 1},
		{Kind: api.InForward, A: 1, E: port}, {Kind: api.InForward, B: 1, E: port}, {Kind: api.InForward, E: port, To: 1},
		{Kind: api.InValid, E: bit}, {Kind: api.InValid, To: 1}, {Kind: api.InValid, E: code(t, "not1")},
		{Kind: api.InIf, A: 1, E: bit, To: 1}, {Kind: api.InIf, B: 1, E: bit, To: 1}, {Kind: api.InJump, A: 1, To: 1}, {Kind: api.InJump, B: 1, To: 1}, {Kind: api.InJump, E: bit, To: 1},
		// Jumps go forward, and to the end at most.
		{Kind: api.InIf, E: bit}, {Kind: api.InIf, E: bit, To: 2}, {Kind: api.InIf, E: bit, To: -1}, {Kind: api.InJump}, {Kind: api.InJump, To: 2}, {Kind: api.InJump, To: -1}, {Kind: api.InJump, To: math.MaxInt},
	} {
		wantBlocks(t, false, false, x)
		// Also where it is not the first one, nor the last one.
		if x.To == 0 && x.Kind != api.InIf && x.Kind != api.InJump {
			wantBlocks(t, false, false, api.Inst{Kind: api.InDrop}, x, api.Inst{Kind: api.InDrop})
		}
	}
	// Jumps from each place to each place.
	for _, x := range []api.Inst{{Kind: api.InJump}, {Kind: api.InIf, E: bit}} {
		for at := range 4 {
			for to := -2; to <= 6; to++ {
				l := fill(4, api.Inst{Kind: api.InDrop})
				l[at], l[at].To = x, to
				wantBlocks(t, at < to && to <= 4, at < to && to <= 4, l...)
			}
		}
	}
	// As many as may be, and one more.
	drops := fill(api.MaxInsts, api.Inst{Kind: api.InDrop})
	drops[0] = api.Inst{Kind: api.InJump, To: api.MaxInsts}
	wantBlocks(t, true, true, drops...)
	wantBlocks(t, false, false, append(drops, api.Inst{Kind: api.InDrop})...)
}

// Each number of a program by some others, and each list longer and shorter.
func TestP10_3MayOfEachPart(t *testing.T) {
	p := lowered(t, typed(t))
	told := map[bool]int{}
	hold := func(what string) {
		want := reckonedMay(p)
		if got := lower.May(p); got != want {
			t.Errorf("%s: May is %v, reckoned %v, of\n%s", what, got, want, toldProg(p))
		}
		told[want]++
	}
	eachPart(reflect.ValueOf(&p).Elem(), "", func(v reflect.Value, what string) {
		old := reflect.New(v.Type()).Elem()
		old.Set(v)
		switch v.Kind() {
		case reflect.Int:
			for _, n := range []int64{old.Int() - 1, old.Int() + 1, old.Int() + 8, -old.Int(), -3, -2, -1, 0, 1, 2, 3, 128, 129, math.MaxInt, math.MinInt} {
				v.SetInt(n)
				hold(what)
			}
		case reflect.Uint8:
			for n := range uint64(23) {
				v.SetUint(n)
				hold(what)
			}
		case reflect.Uint64:
			for _, n := range []uint64{0, 1, old.Uint() + 1, old.Uint() << 1, 1 << 63, math.MaxUint64} {
				v.SetUint(n)
				hold(what)
			}
		case reflect.Slice:
			v.Set(reflect.Zero(v.Type()))
			hold(what)
			if n := old.Len(); n > 0 {
				v.Set(old.Slice(0, n-1))
				hold(what)
				v.Set(old.Slice(1, n))
				hold(what)
				v.Set(reflect.AppendSlice(old.Slice3(0, n, n), old.Slice(0, 1)))
				hold(what)
			}
			v.Set(reflect.Append(old.Slice3(0, old.Len(), old.Len()), reflect.Zero(v.Type().Elem())))
			hold(what)
		}
		v.Set(old)
	})
	if toldProg(p) != typedLowered || told[true] < 300 || told[false] < 5000 {
		t.Errorf("told are %v", told)
	}
}

// eachPart hands on each part of a thing, and what it is called.
func eachPart(v reflect.Value, what string, hand func(v reflect.Value, what string)) {
	hand(v, what)
	switch v.Kind() {
	case reflect.Struct:
		for i := range v.NumField() {
			eachPart(v.Field(i), what+"."+v.Type().Field(i).Name, hand)
		}
	case reflect.Slice:
		for i := range v.Len() {
			eachPart(v.Index(i), what+"["+num.Text(num.Of(uint64(i)))+"]", hand)
		}
	}
}
