package sides

import "abugida/api"

func isRenaming(l []api.Pair) bool {
	for _, p := range l {
		if !isSymbol(p.In) || p.Out != 0 && !isSymbol(p.Out) {
			return false
		}
	}
	return true
}

func isSymbol(s int) bool {
	return s >= 1 && s <= api.MaxSymbols
}

// renaming is the change of symbols, on both sides, to those of a renaming.
func renaming(l []api.Pair) change {
	var images [api.MaxSymbols + 1]int
	for s := range images {
		images[s] = s
	}
	// Of several pairs for a symbol, the first one is entered last.
	for i := len(l) - 1; i >= 0; i-- {
		images[l[i].In] = l[i].Out
	}
	return change{arc: func(a api.Arc) api.Arc {
		a.In, a.Out = images[a.In], images[a.Out]
		return a
	}}
}
