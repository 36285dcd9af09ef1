package lower

import (
	"slices"

	"quillon/api"
)

func sameStep(a, b api.Step) bool {
	return slices.Equal(a.Takes, b.Takes) && slices.EqualFunc(a.Keys, b.Keys, SameCode) &&
		slices.EqualFunc(a.Branches, b.Branches, sameBranch) && a.To == b.To
}

func sameBranch(a, b api.Branch) bool { return slices.Equal(a.Pats, b.Pats) && a.To == b.To }

func sameAct(a, b api.Act) bool {
	return slices.Equal(a.Params, b.Params) && slices.EqualFunc(a.Body, b.Body, sameInst)
}

func sameInst(a, b api.Inst) bool {
	return a.Kind == b.Kind && a.A == b.A && a.B == b.B && SameCode(a.E, b.E) && a.To == b.To
}

func sameTab(a, b api.Tab) bool {
	return slices.EqualFunc(a.Keys, b.Keys, SameCode) && slices.Equal(a.Kinds, b.Kinds) &&
		slices.Equal(a.Acts, b.Acts) && sameRun(a.Default, b.Default)
}

func sameRun(a, b api.Run) bool { return a.Act == b.Act && slices.Equal(a.Args, b.Args) }

func sameNames(a, b api.Names) bool {
	return slices.Equal(a.Headers, b.Headers) &&
		slices.EqualFunc(a.Fields, b.Fields, slices.Equal[[]string]) &&
		slices.Equal(a.Metas, b.Metas) && slices.Equal(a.Actions, b.Actions) && slices.Equal(a.Tables, b.Tables)
}
